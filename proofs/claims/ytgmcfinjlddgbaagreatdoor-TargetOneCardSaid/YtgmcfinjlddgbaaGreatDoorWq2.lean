/- Words: the reader's fields behind the digits, and Parse: what it answers for every text. -/
import Derived.Test.YtgmcfinjlddgbaaGreatDoorWq1
import Derived.PlainAid
namespace Go.Proofs.YtgmcfinjlddgbaaGreatDoor
open Go.RowKit
def bit (b : Bool) : Int := if b then 1 else 0
theorem bit_t : bit true = 1 := rfl
theorem bit_f : bit false = 0 := rfl
set_option linter.unusedVariables false

theorem at_any (b : Nat) (bl : Bool) (m s d : Int) (w : World) (hr : Rd w b bl m s d) (h0 : 0 ≤ d) (h1 : d ≤ 4611686018427387904) :
    Calls Tryz.prog 163 #[.pointer (some ⟨b, 0, none⟩)] w fun e w' => e = .returned (.int .i64 (d + bit bl)) ∧ w = w' := by
  obtain ⟨⟨c0, c1, c2, c3⟩, f2, f3⟩ := hr.cells
  clear hr
  cases bl
  · rw [bit_f, Int.add_zero]
    go_enter Tryz.func163, Tryz.ntmps163
    go_wp2
    go_ret
    exact ⟨rfl, rfl⟩
  · rw [bit_t]
    go_enter Tryz.func163, Tryz.ntmps163
    go_wp2
    go_ret
    exact ⟨rfl, rfl⟩
/-- The word of a size, with a sign. -/
def signed (bl : Bool) (s : Int) : Int := if bl then wrap64 (-(wrap64 s)) else wrap64 s
theorem word_any (b : Nat) (bl : Bool) (m s d : Int) (w : World) (hr : Rd w b bl m s d) :
    Calls Tryz.prog 164 #[.pointer (some ⟨b, 0, none⟩)] w fun e w' => e = .returned (.int .i64 (signed bl s)) ∧ w = w' := by
  obtain ⟨⟨c0, c1, c2, c3⟩, f2, f3⟩ := hr.cells
  clear hr
  cases bl
  · go_enter Tryz.func164, Tryz.ntmps164
    go_wp2
    go_ret
    exact ⟨rfl, rfl⟩
  · go_enter Tryz.func164, Tryz.ntmps164
    go_wp2
    go_ret
    exact ⟨rfl, rfl⟩
instance (bl : Bool) (m s d c : Int) : Decidable (Halts bl m s d c) := inferInstanceAs (Decidable (_ ∨ _))
/-- How far the digits go: the size, how many there are, whether all went in. -/
def scanN (bl : Bool) (m : Int) : List UInt8 → Int → Int → Int × Int × Bool
  | [], s, d => (s, d, true)
  | c :: r, s, d => if Halts bl m s d (c.toNat : Int) then (s, d, false) else scanN bl m r (s * 10 + ((c.toNat : Int) - 48)) (d + 1)
/-- What is answered of a reader's digits. -/
def told (bl : Bool) (x : Int × Int × Bool) : Int × Int × Int := if x.2.2 = true ∧ x.2.1 ≠ 0 then (signed bl x.1, 0, 0) else (0, 10, x.2.1 + bit bl)
def parseP (l : List UInt8) : Int × Int × Int := match l with
  | 45 :: r => told true (scanN true 9223372036854775808 r 0 0)
  | r => told false (scanN false 9223372036854775807 r 0 0)
theorem drop_at (T : ByteArray) (k : Nat) (h : k < T.size) : T.data.toList.drop k = T[k] :: T.data.toList.drop (k + 1) := by
  rw [List.drop_eq_getElem_cons (by simpa using h)]; rfl
/-- What Parse leaves behind: its three answers, and nothing that was there has changed. -/
def ParsePost (x : Int × Int × Int) (w : World) (e : Ending) (w' : World) : Prop := e = .returned (.tuple #[.int .i64 x.1, .int .i64 x.2.1, .int .i64 x.2.2]) ∧ Below w.heap.size w w'
theorem told_no {bl : Bool} {x : Int × Int × Bool} {a : Int} (h : x.2.2 = false ∨ x.2.1 = 0) (ha : a = x.2.1 + bit bl) : told bl x = (0, 10, a) := by
  unfold told
  rw [if_neg (by rcases h with h | h <;> simp [h]), ha]
theorem told_yes {bl : Bool} {x : Int × Int × Bool} {a : Int} (h : x.2.2 = true) (h1 : x.2.1 ≠ 0) (ha : a = signed bl x.1) : told bl x = (a, 0, 0) := by
  unfold told
  rw [if_pos ⟨h, h1⟩, ha]
theorem post_no {bl : Bool} {x : Int × Int × Bool} {a : Int} {w w' : World} (h : x.2.2 = false ∨ x.2.1 = 0) (ha : a = x.2.1 + bit bl) (hb : Below w.heap.size w w') :
    ParsePost (told bl x) w (.returned (.tuple #[.int .i64 0, .int .i64 10, .int .i64 a])) w' := by
  rw [told_no h ha]; exact ⟨rfl, hb⟩
theorem post_yes {bl : Bool} {x : Int × Int × Bool} {a : Int} {w w' : World} (h : x.2.2 = true) (h1 : x.2.1 ≠ 0) (ha : a = signed bl x.1) (hb : Below w.heap.size w w') :
    ParsePost (told bl x) w (.returned (.tuple #[.int .i64 a, .int .i64 0, .int .i64 0])) w' := by
  rw [told_yes h h1 ha]; exact ⟨rfl, hb⟩
theorem scan_no {bl : Bool} {m s d c : Int} {u : UInt8} {r : List UInt8} (hu : (u.toNat : Int) = c) (h : Halts bl m s d c) : scanN bl m (u :: r) s d = (s, d, false) := by
  subst hu; simp only [scanN]; rw [if_pos h]
theorem scan_yes {bl : Bool} {m s d c : Int} {u : UInt8} {r : List UInt8} (hu : (u.toNat : Int) = c) (h : ¬ Halts bl m s d c) : scanN bl m (u :: r) s d = scanN bl m r (s * 10 + (c - 48)) (d + 1) := by
  subst hu; simp only [scanN]; rw [if_neg h]

theorem parse_plain (s : ByteArray) (w : World) (hs : s.size ≤ 4611686018427387904) (h0 : 0 < s.size) (h45 : ¬ PlainAid.bt s 0 = 45) :
    Calls Tryz.prog 158 #[.string s] w (ParsePost (told false (scanN false 9223372036854775807 s.data.toList 0 0)) w) := by
  have hbs := PlainAid.get_bt s
  have h45b : (PlainAid.bt s 0 == 45) = false := by simpa using h45
  obtain ⟨T, HT⟩ : ∃ T, Hid (T = s) := ⟨_, rfl⟩
  have hTs : T.size ≤ 4611686018427387904 := by rw [HT.out]; exact hs
  go_enter Tryz.func158, Tryz.ntmps158
  go_wp2_with fail
  rw [← HT.out]
  have hTn : s.size = T.size := by rw [HT.out]
  try rw [hTn]
  clear hTn hs h0 h45 hbs h45b
  have hbt := PlainAid.get_bt T
  go_loopw [21] (fun i wr => ∃ (k : Nat) (sz : Int), k ≤ T.size ∧ i = .int .i64 k ∧ Rd wr w.heap.size false 9223372036854775807 sz k ∧ 0 ≤ sz ∧ sz ≤ 9223372036854775807 ∧ Hid (scanN false 9223372036854775807 (T.data.toList.drop k) sz k = scanN false 9223372036854775807 T.data.toList 0 0) ∧ Below w.heap.size w wr) (fun i _ => T.size - (intOf i).toNat)
  case atStart =>
    exact ⟨0, 0, Nat.zero_le _, rfl, heap_alloc_new _ _, by decide, by decide, rfl, (Below.refl _ _).alloc (Nat.le_refl _) _⟩
  case round =>
    obtain ⟨k, sz, hk, rfl, hr, hz0, hz1, hsc, hB⟩ := hrel
    have hx0 := PlainAid.bt_nonneg T k
    have hx1 := PlainAid.bt_le T k
    by_cases hlt : k < T.size
    · have hu : ((T[k]).toNat : Int) = PlainAid.bt T k := PlainAid.get_bt T k hlt
      have hdr := drop_at T k hlt
      by_cases hh : Halts false 9223372036854775807 sz k (PlainAid.bt T k)
      · have hend : Hid (scanN false 9223372036854775807 T.data.toList 0 0 = (sz, (k : Int), false)) := by rw [Hid, ← hsc.out, hdr, scan_no hu hh]
        have H := Lib.hid (take_no w.heap.size false 9223372036854775807 sz k (PlainAid.bt T k) wr hr hx0 hx1 (by decide) (by decide) hz0 (by omega) (by omega) hh)
        clear hu hdr hsc hh
        go_wp2_with (first | (go_at_call 162; refine (H.out).mono ?_; rintro e w1 ⟨rfl, hr1, hb1, hz1⟩) | (go_at_call 163; refine (at_any w.heap.size false 9223372036854775807 sz k _ hr1 (by omega) (by omega)).mono ?_; rintro e w' ⟨rfl, rfl⟩))
        go_ret3
        try rw [← HT.out]
        exact post_no (.inl (by rw [hend.out])) (by rw [hend.out]) (hB.trans hb1)
      · have hnext : Hid (scanN false 9223372036854775807 (T.data.toList.drop (k + 1)) (sz * 10 + (PlainAid.bt T k - 48)) ((k : Int) + 1) = scanN false 9223372036854775807 T.data.toList 0 0) := by rw [Hid, ← hsc.out, hdr, scan_yes hu hh]
        have hm : sz * 10 + (PlainAid.bt T k - 48) ≤ 9223372036854775807 ∧ 0 ≤ sz * 10 + (PlainAid.bt T k - 48) := by
          have a1 : ¬ ((9223372036854775807 : Int) - (PlainAid.bt T k - 48)) / 10 < sz := fun hx => hh (.inr (.inr (.inr (.inr hx))))
          have a2 : ¬ PlainAid.bt T k < 48 := fun hx => hh (.inl hx)
          omega
        have H := Lib.hid (take_yes w.heap.size false 9223372036854775807 sz k (PlainAid.bt T k) wr hr hx0 hx1 (by decide) (by decide) hz0 (by omega) (by omega) hh)
        have HM := Lib.hid hm
        clear hu hdr hsc hh hm
        go_wp2_with (go_at_call 162; refine (H.out).mono ?_; rintro e w1 ⟨rfl, hr1, hb1, hz1⟩)
        go_roundw
        case rel => exact ⟨k + 1, sz * 10 + (PlainAid.bt T k - 48), by omega, by go_num, by rw [Int.natCast_add]; exact hr1, HM.out.2, HM.out.1, by rw [Int.natCast_add]; exact hnext, hB.trans hb1⟩
        case measure => simp [intOf]; omega
    · have hend : Hid (scanN false 9223372036854775807 T.data.toList 0 0 = (sz, (k : Int), true)) := by
        rw [Hid, ← hsc.out, List.drop_of_length_le (by simp; omega)]; rfl
      clear hsc hx0 hx1
      by_cases hn0 : k = 0
      · subst hn0
        have hr' : Rd wr w.heap.size false 9223372036854775807 sz 0 := hr
        clear hr
        obtain ⟨⟨c0, c1, c2, c3⟩, f2, f3⟩ := hr'.cells
        go_wp2_with (go_at_call 163; refine (at_any w.heap.size false 9223372036854775807 sz 0 _ hr' (by omega) (by omega)).mono ?_; rintro e w' ⟨rfl, rfl⟩)
        go_ret3
        try rw [← HT.out]
        exact post_no (.inr (by rw [hend.out]; rfl)) (by rw [hend.out]; rfl) hB
      · obtain ⟨⟨c0, c1, c2, c3⟩, f2, f3⟩ := hr.cells
        have hn0b : ((k : Int) == 0) = false := by simpa using hn0
        go_wp2_with (go_at_call 164; refine (word_any w.heap.size false 9223372036854775807 sz k _ hr).mono ?_; rintro e w' ⟨rfl, rfl⟩)
        go_ret3
        try rw [← HT.out]
        exact post_yes (by rw [hend.out]) (by rw [hend.out]; simpa using hn0) (by rw [hend.out]) hB

theorem parse_below (s : ByteArray) (w : World) (hs : s.size ≤ 4611686018427387904) (h0 : 0 < s.size) (h45 : PlainAid.bt s 0 = 45) :
    Calls Tryz.prog 158 #[.string s] w (ParsePost (told true (scanN true 9223372036854775808 (s.extract 1 s.size).data.toList 0 0)) w) := by
  have hbs := PlainAid.get_bt s
  have h45b : (PlainAid.bt s 0 == 45) = true := by simpa using h45
  clear h45
  obtain ⟨T, HT⟩ : ∃ T, Hid (T = (s.extract 1 s.size)) := ⟨_, rfl⟩
  have hTs : T.size ≤ 4611686018427387904 := by rw [HT.out]; simp; omega
  go_enter Tryz.func158, Tryz.ntmps158
  go_wp2_with fail
  rw [← HT.out]
  have hTn : s.size - 1 = T.size := by rw [HT.out]; simp
  try rw [hTn]
  clear hTn hs h0 hbs h45b
  have hbt := PlainAid.get_bt T
  go_loopw [21] (fun i wr => ∃ (k : Nat) (sz : Int), k ≤ T.size ∧ i = .int .i64 k ∧ Rd wr w.heap.size true 9223372036854775808 sz k ∧ 0 ≤ sz ∧ sz ≤ 9223372036854775808 ∧ Hid (scanN true 9223372036854775808 (T.data.toList.drop k) sz k = scanN true 9223372036854775808 T.data.toList 0 0) ∧ Below w.heap.size w wr) (fun i _ => T.size - (intOf i).toNat)
  case atStart =>
    exact ⟨0, 0, Nat.zero_le _, rfl, heap_alloc_new _ _, by decide, by decide, rfl, (Below.refl _ _).alloc (Nat.le_refl _) _⟩
  case round =>
    obtain ⟨k, sz, hk, rfl, hr, hz0, hz1, hsc, hB⟩ := hrel
    have hx0 := PlainAid.bt_nonneg T k
    have hx1 := PlainAid.bt_le T k
    by_cases hlt : k < T.size
    · have hu : ((T[k]).toNat : Int) = PlainAid.bt T k := PlainAid.get_bt T k hlt
      have hdr := drop_at T k hlt
      by_cases hh : Halts true 9223372036854775808 sz k (PlainAid.bt T k)
      · have hend : Hid (scanN true 9223372036854775808 T.data.toList 0 0 = (sz, (k : Int), false)) := by rw [Hid, ← hsc.out, hdr, scan_no hu hh]
        have H := Lib.hid (take_no w.heap.size true 9223372036854775808 sz k (PlainAid.bt T k) wr hr hx0 hx1 (by decide) (by decide) hz0 (by omega) (by omega) hh)
        clear hu hdr hsc hh
        go_wp2_with (first | (go_at_call 162; refine (H.out).mono ?_; rintro e w1 ⟨rfl, hr1, hb1, hz1⟩) | (go_at_call 163; refine (at_any w.heap.size true 9223372036854775808 sz k _ hr1 (by omega) (by omega)).mono ?_; rintro e w' ⟨rfl, rfl⟩))
        go_ret3
        try rw [← HT.out]
        exact post_no (.inl (by rw [hend.out])) (by rw [hend.out]) (hB.trans hb1)
      · have hnext : Hid (scanN true 9223372036854775808 (T.data.toList.drop (k + 1)) (sz * 10 + (PlainAid.bt T k - 48)) ((k : Int) + 1) = scanN true 9223372036854775808 T.data.toList 0 0) := by rw [Hid, ← hsc.out, hdr, scan_yes hu hh]
        have hm : sz * 10 + (PlainAid.bt T k - 48) ≤ 9223372036854775808 ∧ 0 ≤ sz * 10 + (PlainAid.bt T k - 48) := by
          have a1 : ¬ ((9223372036854775808 : Int) - (PlainAid.bt T k - 48)) / 10 < sz := fun hx => hh (.inr (.inr (.inr (.inr hx))))
          have a2 : ¬ PlainAid.bt T k < 48 := fun hx => hh (.inl hx)
          omega
        have H := Lib.hid (take_yes w.heap.size true 9223372036854775808 sz k (PlainAid.bt T k) wr hr hx0 hx1 (by decide) (by decide) hz0 (by omega) (by omega) hh)
        have HM := Lib.hid hm
        clear hu hdr hsc hh hm
        go_wp2_with (go_at_call 162; refine (H.out).mono ?_; rintro e w1 ⟨rfl, hr1, hb1, hz1⟩)
        go_roundw
        case rel => exact ⟨k + 1, sz * 10 + (PlainAid.bt T k - 48), by omega, by go_num, by rw [Int.natCast_add]; exact hr1, HM.out.2, HM.out.1, by rw [Int.natCast_add]; exact hnext, hB.trans hb1⟩
        case measure => simp [intOf]; omega
    · have hend : Hid (scanN true 9223372036854775808 T.data.toList 0 0 = (sz, (k : Int), true)) := by
        rw [Hid, ← hsc.out, List.drop_of_length_le (by simp; omega)]; rfl
      clear hsc hx0 hx1
      by_cases hn0 : k = 0
      · subst hn0
        have hr' : Rd wr w.heap.size true 9223372036854775808 sz 0 := hr
        clear hr
        obtain ⟨⟨c0, c1, c2, c3⟩, f2, f3⟩ := hr'.cells
        go_wp2_with (go_at_call 163; refine (at_any w.heap.size true 9223372036854775808 sz 0 _ hr' (by omega) (by omega)).mono ?_; rintro e w' ⟨rfl, rfl⟩)
        go_ret3
        try rw [← HT.out]
        exact post_no (.inr (by rw [hend.out]; rfl)) (by rw [hend.out]; rfl) hB
      · obtain ⟨⟨c0, c1, c2, c3⟩, f2, f3⟩ := hr.cells
        have hn0b : ((k : Int) == 0) = false := by simpa using hn0
        go_wp2_with (go_at_call 164; refine (word_any w.heap.size true 9223372036854775808 sz k _ hr).mono ?_; rintro e w' ⟨rfl, rfl⟩)
        go_ret3
        try rw [← HT.out]
        exact post_yes (by rw [hend.out]) (by rw [hend.out]; simpa using hn0) (by rw [hend.out]) hB

theorem parse_none (s : ByteArray) (w : World) (hs : s.size ≤ 4611686018427387904) (h0 : ¬ 0 < s.size) :
    Calls Tryz.prog 158 #[.string s] w (ParsePost (told false (scanN false 9223372036854775807 s.data.toList 0 0)) w) := by
  obtain ⟨T, HT⟩ : ∃ T, Hid (T = s) := ⟨_, rfl⟩
  have hTs : T.size ≤ 4611686018427387904 := by rw [HT.out]; exact hs
  go_enter Tryz.func158, Tryz.ntmps158
  go_wp2_with fail
  rw [← HT.out]
  have hTn : s.size = T.size := by rw [HT.out]
  try rw [hTn]
  clear hTn hs h0
  have hbt := PlainAid.get_bt T
  go_loopw [21] (fun i wr => ∃ (k : Nat) (sz : Int), k ≤ T.size ∧ i = .int .i64 k ∧ Rd wr w.heap.size false 9223372036854775807 sz k ∧ 0 ≤ sz ∧ sz ≤ 9223372036854775807 ∧ Hid (scanN false 9223372036854775807 (T.data.toList.drop k) sz k = scanN false 9223372036854775807 T.data.toList 0 0) ∧ Below w.heap.size w wr) (fun i _ => T.size - (intOf i).toNat)
  case atStart =>
    exact ⟨0, 0, Nat.zero_le _, rfl, heap_alloc_new _ _, by decide, by decide, rfl, (Below.refl _ _).alloc (Nat.le_refl _) _⟩
  case round =>
    obtain ⟨k, sz, hk, rfl, hr, hz0, hz1, hsc, hB⟩ := hrel
    have hx0 := PlainAid.bt_nonneg T k
    have hx1 := PlainAid.bt_le T k
    by_cases hlt : k < T.size
    · have hu : ((T[k]).toNat : Int) = PlainAid.bt T k := PlainAid.get_bt T k hlt
      have hdr := drop_at T k hlt
      by_cases hh : Halts false 9223372036854775807 sz k (PlainAid.bt T k)
      · have hend : Hid (scanN false 9223372036854775807 T.data.toList 0 0 = (sz, (k : Int), false)) := by rw [Hid, ← hsc.out, hdr, scan_no hu hh]
        have H := Lib.hid (take_no w.heap.size false 9223372036854775807 sz k (PlainAid.bt T k) wr hr hx0 hx1 (by decide) (by decide) hz0 (by omega) (by omega) hh)
        clear hu hdr hsc hh
        go_wp2_with (first | (go_at_call 162; refine (H.out).mono ?_; rintro e w1 ⟨rfl, hr1, hb1, hz1⟩) | (go_at_call 163; refine (at_any w.heap.size false 9223372036854775807 sz k _ hr1 (by omega) (by omega)).mono ?_; rintro e w' ⟨rfl, rfl⟩))
        go_ret3
        try rw [← HT.out]
        exact post_no (.inl (by rw [hend.out])) (by rw [hend.out]) (hB.trans hb1)
      · have hnext : Hid (scanN false 9223372036854775807 (T.data.toList.drop (k + 1)) (sz * 10 + (PlainAid.bt T k - 48)) ((k : Int) + 1) = scanN false 9223372036854775807 T.data.toList 0 0) := by rw [Hid, ← hsc.out, hdr, scan_yes hu hh]
        have hm : sz * 10 + (PlainAid.bt T k - 48) ≤ 9223372036854775807 ∧ 0 ≤ sz * 10 + (PlainAid.bt T k - 48) := by
          have a1 : ¬ ((9223372036854775807 : Int) - (PlainAid.bt T k - 48)) / 10 < sz := fun hx => hh (.inr (.inr (.inr (.inr hx))))
          have a2 : ¬ PlainAid.bt T k < 48 := fun hx => hh (.inl hx)
          omega
        have H := Lib.hid (take_yes w.heap.size false 9223372036854775807 sz k (PlainAid.bt T k) wr hr hx0 hx1 (by decide) (by decide) hz0 (by omega) (by omega) hh)
        have HM := Lib.hid hm
        clear hu hdr hsc hh hm
        go_wp2_with (go_at_call 162; refine (H.out).mono ?_; rintro e w1 ⟨rfl, hr1, hb1, hz1⟩)
        go_roundw
        case rel => exact ⟨k + 1, sz * 10 + (PlainAid.bt T k - 48), by omega, by go_num, by rw [Int.natCast_add]; exact hr1, HM.out.2, HM.out.1, by rw [Int.natCast_add]; exact hnext, hB.trans hb1⟩
        case measure => simp [intOf]; omega
    · have hend : Hid (scanN false 9223372036854775807 T.data.toList 0 0 = (sz, (k : Int), true)) := by
        rw [Hid, ← hsc.out, List.drop_of_length_le (by simp; omega)]; rfl
      clear hsc hx0 hx1
      by_cases hn0 : k = 0
      · subst hn0
        have hr' : Rd wr w.heap.size false 9223372036854775807 sz 0 := hr
        clear hr
        obtain ⟨⟨c0, c1, c2, c3⟩, f2, f3⟩ := hr'.cells
        go_wp2_with (go_at_call 163; refine (at_any w.heap.size false 9223372036854775807 sz 0 _ hr' (by omega) (by omega)).mono ?_; rintro e w' ⟨rfl, rfl⟩)
        go_ret3
        try rw [← HT.out]
        exact post_no (.inr (by rw [hend.out]; rfl)) (by rw [hend.out]; rfl) hB
      · obtain ⟨⟨c0, c1, c2, c3⟩, f2, f3⟩ := hr.cells
        have hn0b : ((k : Int) == 0) = false := by simpa using hn0
        go_wp2_with (go_at_call 164; refine (word_any w.heap.size false 9223372036854775807 sz k _ hr).mono ?_; rintro e w' ⟨rfl, rfl⟩)
        go_ret3
        try rw [← HT.out]
        exact post_yes (by rw [hend.out]) (by rw [hend.out]; simpa using hn0) (by rw [hend.out]) hB

theorem head_at (s : ByteArray) (h : 0 < s.size) : ∃ u r, s.data.toList = u :: r ∧ (u.toNat : Int) = PlainAid.bt s 0 ∧ r = (s.extract 1 s.size).data.toList := by
  refine ⟨s[0], s.data.toList.drop 1, ?_, PlainAid.get_bt s 0 h, ?_⟩
  · have := drop_at s 0 h
    simpa using this
  · simp
    rw [List.take_of_length_le (by simp)]
/-- Parse, for every text. -/
theorem parse_any (s : ByteArray) (w : World) (hs : s.size ≤ 4611686018427387904) : Calls Tryz.prog 158 #[.string s] w (ParsePost (parseP s.data.toList) w) := by
  by_cases h0 : 0 < s.size
  · obtain ⟨u, r, e, hu, hr⟩ := head_at s h0
    by_cases h : PlainAid.bt s 0 = 45
    · have h45 : u = 45 := by
        apply UInt8.toNat_inj.1
        have : (u.toNat : Int) = 45 := by rw [hu]; exact h
        show u.toNat = 45
        omega
      subst h45
      have k := parse_below s w hs h0 h
      rw [e]
      rw [← hr] at k
      exact k
    · have h45 : u ≠ 45 := fun hx => h (by rw [← hu, hx]; rfl)
      have k := parse_plain s w hs h0 h
      have e2 : parseP s.data.toList = told false (scanN false 9223372036854775807 s.data.toList 0 0) := by
        rw [e]; unfold parseP; split
        · rename_i heq; simp only [List.cons.injEq] at heq; exact absurd heq.1 h45
        · rfl
      rw [e2]
      exact k
  · have k := parse_none s w hs h0
    have e : s.data.toList = [] := by
      have h1 : s.size = 0 := by omega
      have h2 : s.data.size = 0 := h1
      exact List.length_eq_zero_iff.1 (by simpa using h2)
    have e2 : parseP s.data.toList = told false (scanN false 9223372036854775807 s.data.toList 0 0) := by
      rw [e]; rfl
    rw [e2]
    exact k
end Go.Proofs.YtgmcfinjlddgbaaGreatDoor

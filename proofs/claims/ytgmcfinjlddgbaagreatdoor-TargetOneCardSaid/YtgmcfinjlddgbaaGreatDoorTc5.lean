/- Target's Encode, walked. -/
import Derived.Test.YtgmcfinjlddgbaaGreatDoorTc4
namespace Go.Proofs.YtgmcfinjlddgbaaGreatDoor
open Go.RowKit Go.Maps
set_option linter.unusedVariables false
set_option maxRecDepth 100000
theorem yt_new (w : World) : Yt w.heap.size [] (w.alloc (.cells #[.slice none 0 0] 93)) := ⟨.slice none 0 0, Own.new w _ _, ⟨rfl, .inl ⟨rfl, rfl⟩⟩⟩
/-- What Encode answers. -/
def encR (o : Ob) : List UInt8 := if (chkO o).1 = 0 then obY o else []
def EncP (o : Ob) (w : World) (e : Ending) (w' : World) : Prop := ∃ a c, e = .returned (.tuple #[.slice a (encR o).length c, .int .i64 (chkO o).1]) ∧ Below w.heap.size w w' ∧ w'.ownsRow w.heap.size 5 1 (.slice a (encR o).length c) (encR o).length (Lib.byteCells (encR o))
set_option maxHeartbeats 4000000 in
theorem encode_any (o : Ob) (hg : rgO o) (hf : fitO o) {v : Value} {w : World} (hv : obA w o v) (T : TgT w) : Calls Tryz.prog 32 #[v] w (EncP o w) := by
  obtain ⟨a1, c1, a5, c5, rfl, h1, h5⟩ := hv
  obtain ⟨r, hr⟩ : ∃ r, r = chkO o := ⟨_, rfl⟩
  have hok : r.1 = 0 → topB o = true := fun h => by
    rw [hr] at h
    exact (chk_ok h).1
  have al : Below w.heap.size w (w.alloc (.cells #[.slice a1 o.mem.length c1, .int .i64 o.sh, .int .i64 o.lk, .int .i64 o.bf, .slice a5 o.cores.length c5] 29)) := (Below.refl _ w).alloc (Nat.le_refl _) _
  have O0 := Own.new w 29 #[.slice a1 o.mem.length c1, .int .i64 o.sh, .int .i64 o.lk, .int .i64 o.bf, .slice a5 o.cores.length c5]
  obtain ⟨W0, hW0⟩ : ∃ W, W = w.alloc (.cells #[.slice a1 o.mem.length c1, .int .i64 o.sh, .int .i64 o.lk, .int .i64 o.bf, .slice a5 o.cores.length c5] 29) := ⟨_, rfl⟩
  rw [← hW0] at al O0
  have hs0 : w.heap.size < W0.heap.size := O0.lt
  have HW0 := Lib.hid hW0
  have HB0 := Lib.hid al
  have HOB : Hid (∀ X, Below w.heap.size w X → obA X o (obV o a1 c1 a5 c5)) := fun X h => ⟨a1, c1, a5, c5, rfl, intsAt_below h1 h, corsAt_below h5 h⟩
  have HCK : Hid (Calls Tryz.prog 15 #[obV o a1 c1 a5 c5] W0 fun e w' => e = chkE r ∧ Below W0.heap.size W0 w') := by
    rw [hr]
    exact check_any o hg hf (HOB.out _ al) (T.below al)
  have HOJ : Hid (r.1 = 0 → ∀ (X Y : World) (b : Nat), Below w.heap.size w X → b = X.heap.size → Below b X Y → Yt b [] Y → Calls Tryz.prog 58 #[.pointer (some ⟨b, 0, none⟩), obV o a1 c1 a5 c5] Y fun e w' => e = .returned (.tuple #[]) ∧ Yq Y b (obY o) w') := fun h X Y b hX hb hXY hwt => by
    refine y_object o hg (hok h) hb hXY (HOB.out _ hX) hwt fun Z hZ => ?_
    exact T.below (hX.trans ((hXY.trans hZ).mono (by rw [hb]; exact hX.size)))
  have HPR : Hid (EncP o w = fun e w' => ∃ a c, e = .returned (.tuple #[.slice a (if r.1 = 0 then obY o else []).length c, .int .i64 r.1]) ∧ Below w.heap.size w w' ∧ w'.ownsRow w.heap.size 5 1 (.slice a (if r.1 = 0 then obY o else []).length c) (if r.1 = 0 then obY o else []).length (Lib.byteCells (if r.1 = 0 then obY o else []))) := by rw [hr]; rfl
  rw [HPR.out]
  clear HPR
  generalize obY o = tx at HOJ ⊢
  clear hok hr T hg hf h1 h5 al hW0 HOB
  obtain ⟨mem, sh, lk, bf, cores⟩ := o
  simp only [obV] at HOJ HCK O0 HW0 ⊢
  generalize mem.length = n1 at HOJ HCK O0 HW0 ⊢
  generalize cores.length = n5 at HOJ HCK O0 HW0 ⊢
  obtain ⟨r1, r2, r3⟩ := r
  simp only at HOJ ⊢
  replace HCK : Hid (Calls Tryz.prog 15 #[.agg #[.slice a1 n1 c1, .int .i64 sh, .int .i64 lk, .int .i64 bf, .slice a5 n5 c5]] W0 fun e w' => e = .returned (.tuple #[.int .i64 r1, .int .i64 r2, .int .i64 r3]) ∧ Below W0.heap.size W0 w') := HCK.out
  have HO0 := Lib.hid O0
  by_cases hr0 : r1 = 0
  rotate_left
  · simp only [if_neg hr0]
    have q1 : (r1 != 0) = true := by simpa using hr0
    clear HOJ hr0
    go_enter Tryz.func32, Tryz.ntmps32
    go_upto_region 1 with (fail)
    rw [← HW0.out]
    clear HW0
    go_wp2_with (first | (refine ld rowO rfl rfl rfl O0 rfl ?_) | (go_at_call 15; refine HCK.out.mono ?_; rintro e w1 ⟨rfl, hb1⟩))
    refine bodyPost_ret (results_tmp2 rfl _ _ _) rfl ?_
    exact ⟨none, 0, rfl, HB0.out.trans (hb1.mono HB0.out.size), ⟨rfl, .inl ⟨rfl, rfl⟩⟩⟩
  · subst hr0
    simp only [if_true]
    have HOJ0 := Lib.hid (HOJ.out rfl)
    clear HOJ
    go_enter Tryz.func32, Tryz.ntmps32
    go_upto_region 1 with (fail)
    rw [← HW0.out]
    clear HW0
    go_upto_region 5 with (first | (refine ld rowO rfl rfl rfl O0 rfl ?_) | (go_at_call 15; refine HCK.out.mono ?_; rintro e w1 ⟨rfl, hb1⟩))
    have HB1 := Lib.hid (HB0.out.trans (hb1.mono HB0.out.size))
    have HS1 : Hid (w.heap.size < w1.heap.size) := Nat.lt_of_lt_of_le hs0 hb1.size
    have HWT := Lib.hid (yt_new w1)
    have O2 := (HO0.out.below hb1).alloc (.cells #[.slice none 0 0] 93)
    have HB2 := Lib.hid ((Below.refl w1.heap.size w1).alloc (Nat.le_refl _) (.cells #[.slice none 0 0] 93))
    obtain ⟨W2, hW2⟩ : ∃ W, W = w1.alloc (.cells #[.slice none 0 0] 93) := ⟨_, rfl⟩
    rw [← hW2] at HWT O2 HB2 ⊢
    have HWO := Lib.hid (HOJ0.out w1 W2 w1.heap.size HB1.out rfl HB2.out HWT.out)
    clear hW2 hb1 HOJ0 HWT HB0 HO0 O0 HCK hs0
    go_wp2_with (first | (refine ld rowO rfl rfl rfl O2 rfl ?_))
    go_at_call 58
    refine HWO.out.mono ?_
    rintro e w3 ⟨rfl, hq⟩
    have HB3 : Hid (Below w.heap.size w w3) := HB1.out.trans ((HB2.out.trans hq.bel).mono HB1.out.size)
    obtain ⟨⟨v, hbk, hrow⟩, _, _⟩ := hq
    have HR : Hid (∃ a c, v = .slice a tx.length c ∧ w3.ownsRow w.heap.size 5 1 (.slice a tx.length c) tx.length (Lib.byteCells tx)) := by
      have hlo : w.heap.size ≤ w1.heap.size + 1 := by have := HS1.out; omega
      rcases hrow with ⟨e1, ⟨hv, h0⟩ | ⟨g, cap, cur, hv, hg1, hrest⟩⟩
      · exact ⟨none, 0, by rw [hv, h0], ⟨e1, .inl ⟨by rw [h0], h0⟩⟩⟩
      · exact ⟨_, cap, hv, ⟨e1, .inr ⟨g, cap, cur, rfl, by omega, hrest⟩⟩⟩
    obtain ⟨a, c, rfl, hR⟩ := HR.out
    have HRR := Lib.hid hR
    have c0 : w3.cell? ⟨w1.heap.size, 0, none⟩ = some (.slice a tx.length c) := by rw [cell_of_row _ _ 0 _ _ _ hbk]; rfl
    clear hbk hrow O2 HWO hR HR
    go_wp2_with fail
    refine bodyPost_ret (results_tmp2 rfl _ _ _) rfl ?_
    exact ⟨_, _, rfl, HB3.out, HRR.out⟩
end Go.Proofs.YtgmcfinjlddgbaaGreatDoor

/- The proof, part 32: texts that belong together, in one. -/
import Derived.Test.YtfogkobgjojpiaaGreatDoorQBE
import Derived.Test.YtfogkobgjojpiaaGreatDoorQAN
import Derived.Test.YtfogkobgjojpiaaGreatDoorQBA
set_option maxRecDepth 100000
set_option maxHeartbeats 20000000
namespace Go.Proofs.YtfogkobgjojpiaaGreatDoor
open Go.RowKit
set_option linter.unusedVariables false
theorem isK_two {L : Int} {ts : List Tk} {a b : Bs} (h : isK L a ts = true) (hab : a ≠ b) : isK L b ts = false := by
 unfold isK at h ⊢
 simp only [Bool.and_eq_true, beq_iff_eq] at h
 rw [h.2]
 have : (a == b) = false := by simpa using hab
 rw [this]; simp
theorem isK_kind {L : Int} {ts : List Tk} {a : Bs} (h : isK L a ts = true) : ¬ (hereM L ts).kind = 3 ∧ ¬ (hereM L ts).kind = 1 := by
 unfold isK at h
 simp only [Bool.and_eq_true, Bool.or_eq_true, beq_iff_eq] at h
 omega
theorem un_step {n : Nat} (H1 : UnC n) (H2 : ExC n) : UnC (n + 1) := by
 intro c w σ d R h0 h1 hn
 obtain ⟨b1, e1⟩ : ∃ b, isK c.L [45] σ.ts = b := ⟨_, rfl⟩
 obtain ⟨b2, e2⟩ : ∃ b, isK c.L [33] σ.ts = b := ⟨_, rfl⟩
 obtain ⟨b3, e3⟩ : ∃ b, isK c.L [40] σ.ts = b := ⟨_, rfl⟩
 by_cases hok : σ.ok = true
 · have hs : ∀ s, isK c.L s σ.ts = true → (σ.step.ok = true → 3 * σ.step.ts.length + 2 ≤ n) := by
    intro s hk hh
    have := isK_ne hk
    have := hn hok
    have e : σ.step.ts.length = σ.ts.tail.length := rfl
    omega
   simp only [unM]
   by_cases hb : (b1 || b2 || b3) = true
   · have hany : ∃ s, isK c.L s σ.ts = true := by
      simp only [Bool.or_eq_true] at hb
      rcases hb with (hb | hb) | hb
      · exact ⟨_, e1.trans hb⟩
      · exact ⟨_, e2.trans hb⟩
      · exact ⟨_, e3.trans hb⟩
     obtain ⟨s, hs1⟩ := hany
     obtain ⟨k3, k1⟩ := isK_kind hs1
     by_cases hd : d = 64
     · have hdm : σ.deepM c.L d = σ.fail c.L 3 := by
        unfold Sr.deepM
        rw [e1, e2, e3, if_pos]
        rw [hb]; simp; omega
       rw [hdm, if_pos (fail_ok (by decide))]
       cases b1 with
       | true => exact un_deep_T R e1 e2 e3 (by omega)
       | false =>
         cases b2 with
         | true => exact un_deep_FT R e1 e2 e3 (by omega)
         | false =>
           cases b3 with
           | true => exact un_deep_FFT R e1 e2 e3 (by omega)
           | false => cases hb
     · have hdm : σ.deepM c.L d = σ := by
        unfold Sr.deepM
        rw [if_neg]
        simp only [Bool.and_eq_true, decide_eq_true_eq]
        intro hh; omega
       rw [hdm, if_neg (by rw [hok]; decide), if_neg k3, if_neg k1]
       cases b1 with
       | true =>
         have f2 := isK_two (b := [33]) e1 (by decide)
         have f3 := isK_two (b := [40]) e1 (by decide)
         rw [if_neg (by rw [f3]; decide), if_pos e1]
         exact un_sub R e1 f2 f3 hok k3 k1 h0 (by omega) (fun W RW => H1 c W σ.step (d + 1) RW (by omega) (by omega) (fun h => by have := hs _ e1 h; omega))
       | false =>
         cases b2 with
         | true =>
           have f3 := isK_two (b := [40]) e2 (by decide)
           rw [if_neg (by rw [f3]; decide), if_neg (by rw [e1]; decide), if_pos e2]
           exact un_not R e1 e2 f3 hok k3 k1 h0 (by omega) (fun W RW => H1 c W σ.step (d + 1) RW (by omega) (by omega) (fun h => by have := hs _ e2 h; omega))
         | false =>
           cases b3 with
           | true =>
             rw [if_pos e3]
             exact un_par R e1 e2 e3 hok k3 k1 h0 (by omega) (fun W RW => H2 c W σ.step 1 (d + 1) RW (by omega) (by omega) (by omega) (by omega) (fun h => hs _ e3 h))
           | false => cases hb
   · have hb' : b1 = false ∧ b2 = false ∧ b3 = false := by
      cases b1 <;> cases b2 <;> cases b3 <;> simp at hb ⊢
     obtain ⟨rfl, rfl, rfl⟩ := hb'
     have hdm : σ.deepM c.L d = σ := by
      unfold Sr.deepM
      rw [e1, e2, e3, if_neg (by simp)]
     rw [hdm, if_neg (by rw [hok]; decide)]
     by_cases k3 : (hereM c.L σ.ts).kind = 3
     · rw [if_pos k3]; exact un_kind3 R e1 e2 e3 hok k3
     · rw [if_neg k3]
       by_cases k1 : (hereM c.L σ.ts).kind = 1
       · rw [if_pos k1]; exact un_kind1 R e1 e2 e3 hok k1
       · rw [if_neg k1, if_neg (by rw [e3]; decide), if_neg (by rw [e1]; decide), if_neg (by rw [e2]; decide)]
         exact un_none R e1 e2 e3 hok k3 k1
 · have hb : σ.ok = false := by simpa using hok
   rw [(bad_expr (n + 1) hb).1]
   by_cases hd : d < 64
   · cases b1 with
     | true => exact un_bad_T0 R e1 e2 e3 hb hd
     | false =>
       cases b2 with
       | true => exact un_bad_FT0 R e1 e2 e3 hb hd
       | false =>
         cases b3 with
         | true => exact un_bad_FFT0 R e1 e2 e3 hb hd
         | false => exact un_bad_FFF0 R e1 e2 e3 hb
   · cases b1 with
     | true => exact un_bad_T1 R e1 e2 e3 hb (by omega)
     | false =>
       cases b2 with
       | true => exact un_bad_FT1 R e1 e2 e3 hb (by omega)
       | false =>
         cases b3 with
         | true => exact un_bad_FFT1 R e1 e2 e3 hb (by omega)
         | false => exact un_bad_FFF0 R e1 e2 e3 hb
theorem un_zero : UnC 0 := by
 intro c w σ d R h0 h1 hn
 have hb : σ.ok = false := by
  cases h : σ.ok with
  | false => rfl
  | true => have := hn h; omega
 have e : unM c.L 0 d σ = unM c.L 1 d σ := by rw [(bad_expr 0 hb).1, (bad_expr 1 hb).1]
 rw [e]
 obtain ⟨b1, e1⟩ : ∃ b, isK c.L [45] σ.ts = b := ⟨_, rfl⟩
 obtain ⟨b2, e2⟩ : ∃ b, isK c.L [33] σ.ts = b := ⟨_, rfl⟩
 obtain ⟨b3, e3⟩ : ∃ b, isK c.L [40] σ.ts = b := ⟨_, rfl⟩
 rw [(bad_expr 1 hb).1]
 by_cases hd : d < 64
 · cases b1 with
   | true => exact un_bad_T0 R e1 e2 e3 hb hd
   | false =>
     cases b2 with
     | true => exact un_bad_FT0 R e1 e2 e3 hb hd
     | false =>
       cases b3 with
       | true => exact un_bad_FFT0 R e1 e2 e3 hb hd
       | false => exact un_bad_FFF0 R e1 e2 e3 hb
 · cases b1 with
   | true => exact un_bad_T1 R e1 e2 e3 hb (by omega)
   | false =>
     cases b2 with
     | true => exact un_bad_FT1 R e1 e2 e3 hb (by omega)
     | false =>
       cases b3 with
       | true => exact un_bad_FFT1 R e1 e2 e3 hb (by omega)
       | false => exact un_bad_FFF0 R e1 e2 e3 hb
structure ExS (c : Par) (w : World) (b7 : Nat) (e1 : Ex) (a5 : Option Addr) (cap5 : Nat) (W : World) (σ : Sr) : Prop where
 run : As c w W σ
 left : Own W b7 38 #[.int .u8 e1.kind, .int .u8 e1.op, .int .i64 e1.wd, .string e1.name, .slice a5 e1.kids.length cap5, .int .i64 e1.pos]
 res : Own W w.heap.size 38 zEx
 tree : exsAt (fun b => w.heap.size < b ∧ b ≠ b7) W e1.kids a5
section
variable {c : Par} {w W W' : World} {b7 : Nat} {e1 : Ex} {a5 : Option Addr} {cap5 : Nat} {σ σ' : Sr}
theorem ExS.below (h : ExS c w b7 e1 a5 cap5 W σ) (hb : Below W.heap.size W W') : ExS c w b7 e1 a5 cap5 W' σ :=
 ⟨h.run.below hb, h.left.below hb, h.res.below hb, exsAt_stays (stays_below hb) (fun b hb => hb) h.tree⟩
theorem ExS.alloc (h : ExS c w b7 e1 a5 cap5 W σ) (o : Obj) : ExS c w b7 e1 a5 cap5 (W.alloc o) σ := h.below ((Below.refl _ W).alloc (Nat.le_refl _) o)
theorem ExS.setX (h : ExS c w b7 e1 a5 cap5 W σ) {j : Nat} {v : Value} (hr : As c w (W.setCell ⟨c.X, j, none⟩ v) σ') (hX : c.X < w.heap.size) (h7 : w.heap.size < b7) : ExS c w b7 e1 a5 cap5 (W.setCell ⟨c.X, j, none⟩ v) σ' :=
 ⟨hr, h.left.setX j _ (by omega), h.res.setX j _ (by omega), exsAt_stays (stays_setX W j _ (fun b hb => by omega)) (fun b hb => hb) h.tree⟩
theorem ExS.call (h : ExS c w b7 e1 a5 cap5 W σ) (hf : Fr c W W') (hp : Rs c W' σ') (hX : c.X < w.heap.size) (h7 : w.heap.size < b7) : ExS c w b7 e1 a5 cap5 W' σ' :=
 ⟨h.run.call hf hp, h.left.fr hf (by omega), h.res.fr hf (by omega), exsAt_stays (stays_fr hf (fun b hb => by omega)) (fun b hb => hb) h.tree⟩
end
def ExI (c : Par) (w : World) (b7 : Nat) (v d : Int) (Y : Ex × Sr) (m : Nat) (W : World) : Prop :=
 ∃ (σ : Sr) (e1 : Ex) (a5 : Option Addr) (cap5 : Nat), ExS c w b7 e1 a5 cap5 W σ ∧ exLM c.L m v d e1 σ = Y ∧ (σ.ok = true → 3 * σ.ts.length + 1 ≤ m)
theorem ex_fin {c : Par} {w W : World} {b7 : Nat} {e1 : Ex} {a5 : Option Addr} {cap5 : Nat} {σ : Sr} {Y : Ex × Sr} (S : RkS c w) (hX : c.X < w.heap.size) (h : ExS c w b7 e1 a5 cap5 W σ) (hY : Y = (e1, σ)) :
 RsPost c w Y (exR w.heap.size) (.returned (.agg #[.int .u8 e1.kind, .int .u8 e1.op, .int .i64 e1.wd, .string e1.name, .slice a5 e1.kids.length cap5, .int .i64 e1.pos])) (W.setRow w.heap.size #[.int .u8 e1.kind, .int .u8 e1.op, .int .i64 e1.wd, .string e1.name, .slice a5 e1.kids.length cap5, .int .i64 e1.pos]) := by
 subst hY
 have S4 := h.run.setRow (g := w.heap.size) (Nat.le_refl _) (by omega) #[.int .u8 e1.kind, .int .u8 e1.op, .int .i64 e1.wd, .string e1.name, .slice a5 e1.kids.length cap5, .int .i64 e1.pos]
 exact ⟨S4.fr, _, rfl, ⟨a5, cap5, rfl, exsAt_mono (exsAt_stays (stays_row W (g := w.heap.size) #[.int .u8 e1.kind, .int .u8 e1.op, .int .i64 e1.wd, .string e1.name, .slice a5 e1.kids.length cap5, .int .i64 e1.pos] (fun b hb => by omega)) (fun b hb => hb) h.tree) (fun b hb => by omega)⟩, S4.rs S⟩
theorem ex_step {n : Nat} (HU : UnC n) (H : ∀ m, m < n → ExC m) : ExC (n + 1) := by
 intro c w σ v d R v0 v1 h0 h1 hn
 obtain ⟨Y0, hY0⟩ : ∃ Y0, Y0 = unM c.L n d σ := ⟨_, rfl⟩
 have HC : Hid (∀ W, Rs c W σ → Calls Tryz.prog 221 #[c.ptr, .int .i64 d] W (RsPost c W Y0 (exR W.heap.size))) := fun W RW => by rw [hY0]; exact HU c W σ d RW h0 h1 (fun h => by have := hn h; omega)
 have HY : Hid (Y0.2.ok = true → 3 * Y0.2.ts.length + 1 ≤ n) := fun h => by
  rw [hY0] at h ⊢
  have h3 := (expr_len (L := c.L) n).1 d σ h
  have := hn h3.1
  have h2 := h3.2
  omega
 have HB : Hid (∀ (m : Nat) (W : World) (σ : Sr) (x : Int), m < n → Rs c W σ → 1 ≤ x → x ≤ 9 → (σ.ok = true → 3 * σ.ts.length + 2 ≤ m) → Calls Tryz.prog 190 #[c.ptr, .int .i64 x, .int .i64 d] W (RsPost c W (exM c.L m x d σ) (exR W.heap.size))) := fun m W σ x hm RW h2 h3 h4 => H m hm c W σ x d RW h2 h3 h0 h1 h4
 simp only [exM]
 rw [← hY0]
 have A0 := Lib.hid (R.as.alloc (.cells zEx 38))
 have O0 := Own.new w 38 zEx
 have HS := Lib.hid R.s
 have hX := Lib.hid R.lt
 clear hY0 H HU R hn
 unfold Par.ptr zEx at *
 go_enter Tryz.func190, Tryz.ntmps190
 go_wp2_with fail
 go_at_call 221
 refine (HC.out _ (A0.out.rs HS.out)).mono ?_
 obtain ⟨e0, σ1⟩ := Y0
 rintro e w1 ⟨hf1, v2, rfl, ⟨a4, cap4, rfl, hV⟩, hR1⟩
 have hXX := hX.out
 have l0 := O0.lt
 have B0 : Hid (ExI c w w1.heap.size v d (exLM c.L n v d e0 σ1) n (w1.alloc (.cells #[.int .u8 e0.kind, .int .u8 e0.op, .int .i64 e0.wd, .string e0.name, .slice a4 e0.kids.length cap4, .int .i64 e0.pos] 38))) := by
  refine ⟨σ1, e0, a4, cap4, ⟨(A0.out.call hf1 hR1).alloc _, Own.new w1 _ _, (O0.fr hf1 (by omega)).alloc _, ?_⟩, rfl, HY.out⟩
  exact exsAt_mono (exsAt_stays (stays_alloc _ w1 _) (fun b hb => hb) (exsAt_in hV)) (fun b hb => by have h1 := hb.1; have h2 := hb.2; simp at h1; omega)
 have hw1 := Lib.hid (show w.heap.size < w1.heap.size by have := Keep.size hf1; omega)
 have HM := Lib.hid (show n < n + 1 by omega)
 obtain ⟨Y, hY⟩ : ∃ Y, Y = exLM c.L n v d e0 σ1 := ⟨_, rfl⟩
 rw [← hY] at B0
 have HYY := Lib.hid hY.symm
 clear hf1 hV hR1 hXX l0 O0 A0 hY HY HC
 go_wp2_with fail
 go_loopg [] n (fun m W => m < n + 1 ∧ ExI c w w1.heap.size v d Y m W)
 case atStart => exact ⟨HM.out, B0.out⟩
 case round =>
  obtain ⟨hm, σj, e1, a5, cap5, S1, hL, hfu⟩ := hrel
  have HS1 := Lib.hid S1
  have HFU := Lib.hid hfu
  have HMM := Lib.hid hm
  have HL := Lib.hid hL
  have HO := Lib.hid (r_okS (S1.run.rs HS.out))
  clear S1 hfu hm hL
  by_cases hok : σj.ok = true
  · obtain ⟨m, rfl⟩ : ∃ m, gk = m + 1 := ⟨gk - 1, by have := HFU.out hok; omega⟩
    rw [hok] at HO
    have HNX : Hid (∀ W, Rs c W σj → Calls Tryz.prog 121 #[c.ptr] W fun e w' => e = .returned (tkV (hereM c.L σj.ts)) ∧ Below W.heap.size W w') := fun W R => r_hereS R
    obtain ⟨t, ht⟩ : ∃ t, t = hereM c.L σj.ts := ⟨_, rfl⟩
    rw [← ht] at HNX
    have HT := Lib.hid ht
    have HOK := Lib.hid hok
    clear ht hok
    obtain ⟨tk, tx, tw, tp⟩ := t
    obtain ⟨op, hop⟩ : ∃ op, op = (fnd tx.data.toList).1 := ⟨_, rfl⟩
    obtain ⟨is, his⟩ : ∃ is, is = (fnd tx.data.toList).2 := ⟨_, rfl⟩
    have HFN : Hid (∀ W, Calls Tryz.prog 222 #[.string tx] W fun e w' => e = .returned (.tuple #[.int .u8 op, .bool is]) ∧ Below W.heap.size W w') := fun W => by
     have := rfind_any tx W
     rw [← hop, ← his] at this
     exact this
    have hb := fnd_bd tx.data.toList
    have hlv : levelOf op = levelI op := by rw [hop]; exact level_fnd _
    have ho0 : 0 ≤ op := by rw [hop]; exact hb.1
    have ho1 : op ≤ 16 := by rw [hop]; exact hb.2.1
    have hoi : is = true → 1 ≤ op := by rw [hop, his]; exact hb.2.2
    obtain ⟨lv, hlvv⟩ : ∃ lv, lv = levelI op := ⟨_, rfl⟩
    have HLV : Hid (∀ W, Calls Tryz.prog 223 #[.int .u8 op] W fun e w' => e = .returned (.int .i64 lv) ∧ Below W.heap.size W w') := fun W => by
     have := rlevel_any op ho0 W
     rw [hlv, ← hlvv] at this
     exact this
    have HG : Hid (σj.goes c.L v = (tk == 4 && is && decide (v ≤ lv))) := by
     unfold Sr.goes
     rw [Hid, HOK.out, ← HT.out, hlvv, hop, his]; rfl
    have hlb : Hid (is = true → 1 ≤ lv ∧ lv ≤ 8) := fun h => by rw [hlvv]; exact level_bd (hoi h) ho1
    have HOP2 : Hid ((fnd (hereM c.L σj.ts).tx).1 = op ∧ levelI op = lv ∧ (hereM c.L σj.ts).pos = tp) := by
     rw [Hid, ← HT.out]; exact ⟨hop.symm, hlvv.symm, rfl⟩
    clear hop his hb hlv hoi hlvv
    unfold tkV at *
    go_wp2_with fail
    go_at_call 29
    refine (HO.out).mono ?_
    rintro e w2 ⟨rfl, hb⟩
    have S2 := Lib.hid (HS1.out.below hb)
    clear hb HS1
    go_wp2_with fail
    go_at_call 121
    refine (HNX.out _ (S2.out.run.rs HS.out)).mono ?_
    rintro e w2 ⟨rfl, hb⟩
    have hz2 := Lib.hid (S2.out.below hb).left.lt
    have S2 := Lib.hid ((S2.out.below hb).alloc (.cells #[.int .u8 tk, .string tx, .int .i64 tw, .int .i64 tp] 108))
    have T2 := Lib.hid (Own.new w2 108 #[.int .u8 tk, .string tx, .int .i64 tw, .int .i64 tp])
    clear hb
    go_upto_region 4 with (fail)
    obtain ⟨W3, hW3⟩ : ∃ W, W = w2.alloc (.cells #[.int .u8 tk, .string tx, .int .i64 tw, .int .i64 tp] 108) := ⟨_, rfl⟩
    rw [← hW3] at S2 T2 ⊢
    clear hW3
    have t1 : W3.cell? ⟨w2.heap.size, 1, none⟩ = some (.string tx) := by rw [cell_of_row _ _ 1 _ _ _ T2.out]; rfl
    go_wp2_with fail
    go_at_call 222
    refine (HFN.out _).mono ?_
    rintro e w3 ⟨rfl, hb⟩
    have S3 := Lib.hid (S2.out.below hb)
    have T3 := Lib.hid (T2.out.below hb)
    have t0 : w3.cell? ⟨w2.heap.size, 0, none⟩ = some (.int .u8 tk) := by rw [cell_of_row _ _ 0 _ _ _ T3.out]; rfl
    clear hb t1 S2 T2
    by_cases hg : σj.goes c.L v = true
    · obtain ⟨_, hne⟩ := goes_ne hg
      have HNE := Lib.hid hne
      have hsp : exLM c.L (m + 1) v d e1 σj = exLM c.L m v d (biX op tp e1 (exM c.L m (lv + 1) d σj.step).1) (exM c.L m (lv + 1) d σj.step).2 := by
       simp only [exLM]
       rw [if_pos hg, HOP2.out.1, HOP2.out.2.1, HOP2.out.2.2]
      rw [HG.out] at hg
      simp only [Bool.and_eq_true, beq_iff_eq, decide_eq_true_eq] at hg
      obtain ⟨⟨hk4, hist⟩, hvl⟩ := hg
      subst hist
      subst hk4
      obtain ⟨lv1, lv8⟩ := hlb.out rfl
      obtain ⟨Z, hZ⟩ : ∃ Z, Z = exM c.L m (lv + 1) d σj.step := ⟨_, rfl⟩
      have HBC : Hid (∀ W, Rs c W σj.step → Calls Tryz.prog 190 #[.pointer (some ⟨c.X, 0, none⟩), .int .i64 (lv + 1), .int .i64 d] W (RsPost c W Z (exR W.heap.size))) := fun W RW => by
       rw [hZ]; exact HB.out m W σj.step (lv + 1) (by have := HMM.out; omega) RW (by omega) (by omega) (fun h => by have := HFU.out HOK.out; omega)
      have HSP : Hid (exLM c.L m v d (biX op tp e1 Z.1) Z.2 = Y) := by rw [Hid, ← HL.out, hsp, hZ]
      have HZL : Hid (Z.2.ok = true → 3 * Z.2.ts.length + 1 ≤ m) := fun h => by
       rw [hZ] at h ⊢
       have h3 := ex_len h
       have := HFU.out HOK.out
       have h2 := h3.2
       omega
      obtain ⟨k, x1, xf, hk6, xl, AS⟩ := S3.out.run.open HS.out hne
      have S4 := Lib.hid (S3.out.setX AS hX.out hw1.out)
      have hn3 := Lib.hid (show c.X ≠ w2.heap.size by have := hX.out; have := hw1.out; have := hz2.out; omega)
      have T4 := Lib.hid (T3.out.setX 1 (.int .i64 ((k : Int) + 1)) hn3.out)
      clear hsp hZ hne AS
      go_wp2_with fail
      go_at_call 223
      refine (HLV.out _).mono ?_
      rintro e w4 ⟨rfl, hb⟩
      have S3 := Lib.hid (S3.out.below hb)
      have T3 := Lib.hid (T3.out.below hb)
      clear x1 xf xl S4 T4 t0
      obtain ⟨k, x1, xf, hk6, xl, AS⟩ := S3.out.run.open HS.out HNE.out
      have S4 := Lib.hid (S3.out.setX AS hX.out hw1.out)
      have T4 := Lib.hid (T3.out.setX 1 (.int .i64 ((k : Int) + 1)) hn3.out)
      clear hb AS
      go_wp2_with fail
      go_at_call 223
      refine (HLV.out _).mono ?_
      rintro e w5 ⟨rfl, hb⟩
      have S5 := Lib.hid (S4.out.below hb)
      have T5 := Lib.hid (T4.out.below hb)
      clear hb x1 xf xl S4 T4 S3 T3
      go_wp2_with fail
      go_at_call 190
      refine (HBC.out _ (S5.out.run.rs HS.out)).mono ?_
      obtain ⟨e2, σ2⟩ := Z
      have hsz4 := Lib.hid (show w2.heap.size < w5.heap.size from T5.out.lt)
      rintro e w5 ⟨hf5, v2, rfl, ⟨a6, cap6, rfl, hV⟩, hR5⟩
      have S5 := S5.out.call hf5 hR5 hX.out hw1.out
      have T5 := T5.out.fr hf5 hn3.out
      have S6 := Lib.hid ((S5.alloc (.cells #[.int .u8 e2.kind, .int .u8 e2.op, .int .i64 e2.wd, .string e2.name, .slice a6 e2.kids.length cap6, .int .i64 e2.pos] 38)).alloc (.cells #[.int .u8 e1.kind, .int .u8 e1.op, .int .i64 e1.wd, .string e1.name, .slice a5 e1.kids.length cap5, .int .i64 e1.pos, .int .u8 e2.kind, .int .u8 e2.op, .int .i64 e2.wd, .string e2.name, .slice a6 e2.kids.length cap6, .int .i64 e2.pos] 38))
      have O7 := (S5.alloc (.cells #[.int .u8 e2.kind, .int .u8 e2.op, .int .i64 e2.wd, .string e2.name, .slice a6 e2.kids.length cap6, .int .i64 e2.pos] 38)).left
      have N6 := Own.new w5 38 #[.int .u8 e2.kind, .int .u8 e2.op, .int .i64 e2.wd, .string e2.name, .slice a6 e2.kids.length cap6, .int .i64 e2.pos]
      have N7 := Own.new (w5.alloc (.cells #[.int .u8 e2.kind, .int .u8 e2.op, .int .i64 e2.wd, .string e2.name, .slice a6 e2.kids.length cap6, .int .i64 e2.pos] 38)) 38 #[.int .u8 e1.kind, .int .u8 e1.op, .int .i64 e1.wd, .string e1.name, .slice a5 e1.kids.length cap5, .int .i64 e1.pos, .int .u8 e2.kind, .int .u8 e2.op, .int .i64 e2.wd, .string e2.name, .slice a6 e2.kids.length cap6, .int .i64 e2.pos]
      rw [World.size_alloc] at N7
      have N7 := Lib.hid N7
      have t3 : w5.cell? ⟨w2.heap.size, 3, none⟩ = some (.int .i64 tp) := by rw [cell_of_row w5 w2.heap.size 3 _ _ _ T5]; rfl
      have hl5 := T5.lt
      have O77 := S6.out.left
      have hV5 := Lib.hid (exsAt_in hV)
      have hl7 := Lib.hid (And.intro S5.left.lt (show w1.heap.size < w2.heap.size from hz2.out))
      have hsz5 := Lib.hid (Keep.size hf5)
      clear hf5 hR5 hV S5 T5
      go_wp2_with (first | (refine ld rowEx rfl rfl rfl O7 rfl ?_) | (refine ld rowEx rfl rfl rfl N6 rfl ?_) | (refine st rowEx rfl rfl O77 rfl rfl (by rfl) (by rfl) (by kernel_rfl) ?_))
      go_roundg m
      case measure => omega
      case rel =>
       have hx := hX.out
       have h17 := hw1.out
       obtain ⟨h27, h37⟩ := hl7.out
       have h5 := hsz5.out
       have h2z := hz2.out
       have h24 := hsz4.out
       have S7 := S6.out.run.setRow (g := w1.heap.size) (by omega) (by omega) #[.int .u8 4, .int .u8 op, .int .i64 0, .string ⟨#[]⟩, .slice (some ⟨w5.heap.size + 1, 0, none⟩) 2 2, .int .i64 tp]
       have N8 := N7.out.other #[.int .u8 4, .int .u8 op, .int .i64 0, .string ⟨#[]⟩, .slice (some ⟨w5.heap.size + 1, 0, none⟩) 2 2, .int .i64 tp] (g := w1.heap.size) (by omega)
       refine ⟨by have := HMM.out; omega, σ2, biX op tp e1 e2, some ⟨w5.heap.size + 1, 0, none⟩, 2, ⟨S7, S6.out.left.row _, S6.out.res.other _ (by omega), ?_⟩, HSP.out, HZL.out⟩
       refine .inr ⟨w5.heap.size + 1, 0, rfl, ⟨by omega, by omega⟩, ?_⟩
       have v1 := exsAt_stays (stays_row _ (g := w1.heap.size) #[.int .u8 4, .int .u8 op, .int .i64 0, .string ⟨#[]⟩, .slice (some ⟨w5.heap.size + 1, 0, none⟩) 2 2, .int .i64 tp] (fun b hb => by omega)) (fun b hb => hb) S6.out.tree
       have v2 := exsAt_mono (exsAt_stays ((stays_alloc _ w5 (.cells #[.int .u8 e2.kind, .int .u8 e2.op, .int .i64 e2.wd, .string e2.name, .slice a6 e2.kids.length cap6, .int .i64 e2.pos] 38)).trans ((stays_alloc _ _ (.cells #[.int .u8 e1.kind, .int .u8 e1.op, .int .i64 e1.wd, .string e1.name, .slice a5 e1.kids.length cap5, .int .i64 e1.pos, .int .u8 e2.kind, .int .u8 e2.op, .int .i64 e2.wd, .string e2.name, .slice a6 e2.kids.length cap6, .int .i64 e2.pos] 38)).trans (stays_row _ (g := w1.heap.size) #[.int .u8 4, .int .u8 op, .int .i64 0, .string ⟨#[]⟩, .slice (some ⟨w5.heap.size + 1, 0, none⟩) 2 2, .int .i64 tp] (fun b hb => by have h1 := hb.1; omega)))) (fun b hb => hb) hV5.out) (R' := fun b => w.heap.size < b ∧ b ≠ w1.heap.size) (fun b hb => by have h1 := hb.1; omega)
       refine ⟨exIn_of (vs := exCells e1 a5 cap5) ⟨a5, cap5, rfl, v1⟩ ?_, exIn_of (vs := exCells e2 a6 cap6) ⟨a6, cap6, rfl, v2⟩ ?_, trivial⟩
       · intro q u hq
         have hq6 : q < 6 := (List.getElem?_eq_some_iff.1 hq).1
         rw [Nat.zero_add, cell_of_row _ (w5.heap.size + 1) q _ _ _ N8, ← hq]
         have : q = 0 ∨ q = 1 ∨ q = 2 ∨ q = 3 ∨ q = 4 ∨ q = 5 := by omega
         rcases this with rfl | rfl | rfl | rfl | rfl | rfl <;> rfl
       · intro q u hq
         have hq6 : q < 6 := (List.getElem?_eq_some_iff.1 hq).1
         rw [cell_of_row _ (w5.heap.size + 1) (0 + 6 + q) _ _ _ N8, ← hq]
         have : q = 0 ∨ q = 1 ∨ q = 2 ∨ q = 3 ∨ q = 4 ∨ q = 5 := by omega
         rcases this with rfl | rfl | rfl | rfl | rfl | rfl <;> rfl
    · have hg' : σj.goes c.L v = false := by simpa using hg
      have hres : Y = (e1, σj) := by
       rw [← HL.out]
       simp only [exLM]
       rw [hg']; rfl
      have fin := Lib.hid (fun W (h : ExS c w w1.heap.size e1 a5 cap5 W σj) => ex_fin HS.out hX.out h (HYY.out.trans hres))
      rw [HG.out] at hg'
      clear hg hres
      cases h4 : (tk == 4) with
      | false =>
        clear hg'
        have h5 : (tk != 4) = true := by unfold bne; rw [h4]; rfl
        have h6 : ¬ tk = 4 := by simpa using h4
        have O7 := S3.out.left
        have O6 := S3.out.res
        go_wp2_with (first | (refine ld rowEx rfl rfl rfl O7 rfl ?_) | (refine st rowEx rfl rfl O6 rfl rfl (by rfl) (by rfl) (by kernel_rfl) ?_))
        exact p_ret rowEx rfl (O6.row #[.int .u8 e1.kind, .int .u8 e1.op, .int .i64 e1.wd, .string e1.name, .slice a5 e1.kids.length cap5, .int .i64 e1.pos]) rfl rfl rfl (fin.out _ S3.out)
      | true =>
        obtain rfl : tk = 4 := by simpa using h4
        clear h4
        cases is with
        | false =>
          clear hg'
          have O7 := S3.out.left
          have O6 := S3.out.res
          go_wp2_with (first | (refine ld rowEx rfl rfl rfl O7 rfl ?_) | (refine st rowEx rfl rfl O6 rfl rfl (by rfl) (by rfl) (by kernel_rfl) ?_))
          exact p_ret rowEx rfl (O6.row #[.int .u8 e1.kind, .int .u8 e1.op, .int .i64 e1.wd, .string e1.name, .slice a5 e1.kids.length cap5, .int .i64 e1.pos]) rfl rfl rfl (fin.out _ S3.out)
        | true =>
          have hlt : lv < v := by simpa using hg'
          clear hg'
          go_wp2_with fail
          go_at_call 223
          refine (HLV.out _).mono ?_
          rintro e w4 ⟨rfl, hb⟩
          have S3 := Lib.hid (S3.out.below hb)
          have O7 := S3.out.left
          have O6 := S3.out.res
          clear hb t0
          go_wp2_with (first | (refine ld rowEx rfl rfl rfl O7 rfl ?_) | (refine st rowEx rfl rfl O6 rfl rfl (by rfl) (by rfl) (by kernel_rfl) ?_))
          exact p_ret rowEx rfl (O6.row #[.int .u8 e1.kind, .int .u8 e1.op, .int .i64 e1.wd, .string e1.name, .slice a5 e1.kids.length cap5, .int .i64 e1.pos]) rfl rfl rfl (fin.out _ S3.out)
  · have hb : σj.ok = false := by simpa using hok
    rw [hb] at HO
    have hres : Y = (e1, σj) := by rw [← HL.out, (bad_expr gk hb).2.1]
    have fin := Lib.hid (fun W (h : ExS c w w1.heap.size e1 a5 cap5 W σj) => ex_fin HS.out hX.out h (HYY.out.trans hres))
    clear hok hb hres
    go_wp2_with fail
    go_at_call 29
    refine (HO.out).mono ?_
    rintro e w2 ⟨rfl, hb⟩
    have S3 := Lib.hid (HS1.out.below hb)
    have O7 := S3.out.left
    have O6 := S3.out.res
    clear hb
    go_wp2_with (first | (refine ld rowEx rfl rfl rfl O7 rfl ?_) | (refine st rowEx rfl rfl O6 rfl rfl (by rfl) (by rfl) (by kernel_rfl) ?_))
    exact p_ret rowEx rfl (O6.row #[.int .u8 e1.kind, .int .u8 e1.op, .int .i64 e1.wd, .string e1.name, .slice a5 e1.kids.length cap5, .int .i64 e1.pos]) rfl rfl rfl (fin.out _ S3.out)
theorem ex_zero : ExC 0 := by
 intro c w σ v d R v0 v1 h0 h1 hn
 have hb : σ.ok = false := by
  cases h : σ.ok with
  | false => rfl
  | true => have := hn h; omega
 have e : exM c.L 0 v d σ = exM c.L 1 v d σ := by rw [(bad_expr 0 hb).2.2, (bad_expr 1 hb).2.2]
 rw [e]
 exact ex_step un_zero (fun m h => by omega) c w σ v d R v0 v1 h0 h1 (fun h => by rw [hb] at h; cases h)
theorem exs_step {n : Nat} (H : ∀ m, m < n → UnC m ∧ ExC m) : UnC n ∧ ExC n := by
 cases n with
 | zero => exact ⟨un_zero, ex_zero⟩
 | succ n => exact ⟨un_step (H n (by omega)).1 (H n (by omega)).2, ex_step (H n (by omega)).1 (fun m h => (H m (by omega)).2)⟩
theorem exs_all (n : Nat) : UnC n ∧ ExC n := by
 induction n using Nat.strongRecOn with
 | ind n ih => exact exs_step ih
open Go.RowKit
set_option linter.unusedVariables false
theorem res4 {fn : Func} {V : TypeId} {i j k : Tmp} (h : fn.results = #[.tmp i, .tmp j, .cell k V]) {tmps : Array Value} {P : Program} {w : World} {d : Addr} {x y z : Value} (ha : tmps.getD i undef = x) (hb : tmps.getD j undef = y) (hd : tmps.getD k undef = .pointer (some d))
 (h3 : (loadVar V d).run P w = .ok z w) : (results fn tmps).run P w = .ok (.tuple #[x, y, z]) w := by
 have ha' : tmps[i]?.getD undef = x := by simpa using ha
 have hb' : tmps[j]?.getD undef = y := by simpa using hb
 have hd' : tmps[k]?.getD undef = .pointer (some d) := by simpa using hd
 simp [results, h, ha', hb', hd', asAddr, h3, Result.andThen]
theorem Own.set2 {W : World} {b : Nat} {T : TypeId} {x y : Value} (h : Own W b T #[x, y]) (u v : Value) : Own ((W.setCell ⟨b, 0, none⟩ u).setCell ⟨b, 1, none⟩ v) b T #[u, v] := by
 have h1 := heap_setCell_same W b 0 _ _ u h
 exact heap_setCell_same _ b 1 _ _ v h1
def BgPost (s : ByteArray) (w : World) (e : Ending) (w' : World) : Prop :=
 Below w.heap.size w w' ∧
 if 65536 < s.size then e = .returned (.tuple #[.pointer none, .int .i64 4, .agg #[.int .i64 0, .int .i64 0]])
 else if ¬ (frontR s).2.2 = 0 then e = .returned (.tuple #[.pointer none, .int .i64 30, .agg #[.int .i64 (frontR s).2.1, .int .i64 1]])
 else ∃ c : Par, e = .returned (.tuple #[c.ptr, .int .i64 0, .agg #[.int .i64 0, .int .i64 0]]) ∧ w.heap.size ≤ c.X ∧ c.toks = (scanX s).1 ∧ c.L = s.size ∧ Rk c w' 0 0 0
theorem r_begun (s : ByteArray) (w : World) : Calls Tryz.prog 27 #[.string s] w (BgPost s w) := by
 unfold BgPost
 have O0 := Own.new w 28 #[.int .i64 0, .int .i64 0]
 by_cases hl : 65536 < s.size
 · have hl' : (65536 : Int) < (s.size : Int) := by omega
   go_enter Tryz.func27, Tryz.ntmps27
   go_wp2_with (first | (refine st rowFl rfl rfl O0 rfl rfl (by rfl) (by rfl) (by kernel_rfl) ?_))
   have p1 := O0.row #[.int .i64 0, .int .i64 0]
   refine bodyPost_ret (res4 rfl rfl rfl rfl (lv_row rowFl p1 rfl)) rfl ⟨Below.of_row ((Below.refl _ w).alloc (Nat.le_refl _) _) (Nat.le_refl _) _, ?_⟩
   first | (rw [if_pos hl]; rfl) | rfl
 · have hl' : ¬ (65536 : Int) < (s.size : Int) := by omega
   have HSC : Hid (∀ W : World, Calls Tryz.prog 68 #[.string s] W fun e w' => ∃ u, e = .returned (.tuple #[u, .int .i64 (scanX s).2.1, .agg #[.int .i64 (scanX s).2.2.1, .int .i64 (scanX s).2.2.2]]) ∧ w'.ownsRow W.heap.size 108 4 u (scanX s).1.length (rowR (scanX s).1) ∧ (u = .slice none 0 0 ↔ (scanX s).1 = []) ∧ Below W.heap.size W w') := fun W => rscan_row s W
   have HLEN := Lib.hid (scanX_len s)
   have HWD := Lib.hid (scanX_wd s)
   simp only [if_neg hl]
   by_cases hf : (frontR s).2.2 = 0
   · have e1 : (scanX s).2.1 = 0 := by unfold scanX; rw [if_neg hl, if_pos hf]
     have e2 : (scanX s).2.2.1 = 0 := by unfold scanX; rw [if_neg hl, if_pos hf]
     have e3 : (scanX s).2.2.2 = 0 := by unfold scanX; rw [if_neg hl, if_pos hf]
     rw [e1, e2, e3] at HSC
     simp only [hf, not_true_eq_false, if_false]
     generalize (scanX s).1 = ts at *
     have hz6 : s.size ≤ 65536 := by omega
     clear e1 e2 e3 hf hl
     go_enter Tryz.func27, Tryz.ntmps27
     go_wp2_with fail
     go_at_call 68
     refine (HSC.out _).mono ?_
     rintro e w1 ⟨u, rfl, hrow, hnil, hb⟩
     obtain ⟨oa, cap, rfl, hoa⟩ := row_shape hrow
     have HROW := Lib.hid hrow
     have O0 := O0.below hb
     have O2 := Own.new w1 28 #[.int .i64 0, .int .i64 0]
     have B1 : Hid (Below w.heap.size w ((w1.alloc (.cells #[.int .i64 0, .int .i64 0] 28)).setRow w1.heap.size #[.int .i64 0, .int .i64 0])) :=
      Below.of_row ((((Below.refl _ w).alloc (Nat.le_refl _) (.cells #[.int .i64 0, .int .i64 0] 28)).trans (hb.mono (by simp))).alloc (by have := hb.size; simp at this; omega) _) (by have := hb.size; simp at this; omega) _
     have hlt1 := Lib.hid O0.lt
     have O0 := Lib.hid ((O0.alloc (.cells #[.int .i64 0, .int .i64 0] 28)).other (g := w1.heap.size) #[.int .i64 0, .int .i64 0] (by have := O0.lt; omega))
     have B2 : Hid (Below w1.heap.size w1 ((w1.alloc (.cells #[.int .i64 0, .int .i64 0] 28)).setRow w1.heap.size #[.int .i64 0, .int .i64 0])) := Below.of_row ((Below.refl _ w1).alloc (Nat.le_refl _) _) (Nat.le_refl _) _
     have hz : Hid (((w1.alloc (.cells #[.int .i64 0, .int .i64 0] 28)).setRow w1.heap.size #[.int .i64 0, .int .i64 0]).heap.size = w1.heap.size + 1) := by simp only [Hid, size_setRow, World.size_alloc]
     have HOA := Lib.hid hoa
     clear hb hrow hnil hoa
     go_upto_region 4 with (first | (refine st rowFl rfl rfl O2 rfl rfl (by rfl) (by rfl) (by kernel_rfl) ?_))
     obtain ⟨W2, hW2⟩ : ∃ W, W = ((w1.alloc (.cells #[.int .i64 0, .int .i64 0] 28)).setRow w1.heap.size #[.int .i64 0, .int .i64 0]) := ⟨_, rfl⟩
     rw [← hW2] at B1 B2 O0 hz ⊢
     clear hW2 O2
     have N3 := Lib.hid (Own.new W2 61 #[.slice oa ts.length cap, .int .i64 0, .int .i64 (s.size : Int), .int .i64 0, .int .i64 0])
     have R0 := O0.out.alloc (.cells #[.slice oa ts.length cap, .int .i64 0, .int .i64 (s.size : Int), .int .i64 0, .int .i64 0] 61)
     go_wp2_with (first | (refine st rowFl rfl rfl R0 rfl rfl (by rfl) (by rfl) (by kernel_rfl) ?_))
     have p1 := R0.row #[.int .i64 0, .int .i64 0]
     have hlt := hlt1.out
     have hzz := hz.out
     have hbs := B1.out.size
     refine bodyPost_ret (res4 rfl rfl rfl rfl (lv_row rowFl p1 rfl)) rfl ⟨Below.of_row (B1.out.alloc hbs _) (Nat.le_refl _) _, ?_⟩
     refine ⟨⟨W2.heap.size, oa, cap, ts, s.size, 0, 0, 0, 0, 0⟩, rfl, hbs, rfl, rfl, ⟨?_, ?_, ⟨HLEN.out, hz6, HWD.out⟩⟩, ?_, Nat.zero_le _⟩
     · have hT := tokRow_owns HROW.out
       obtain ⟨oa', cap', hu, hc⟩ := hT
       refine ⟨oa', cap', hu, fun i x hx => ?_⟩
       obtain ⟨g, off, ho, a0, a1, a2, a3⟩ := hc i x hx
       have hg : g < w1.heap.size := lt_of_at a0
       have hne : g ≠ w.heap.size := by
        intro e
        obtain ⟨rfl, _, _⟩ : oa = oa' ∧ ts.length = ts.length ∧ cap = cap' := by cases hu; exact ⟨rfl, rfl, rfl⟩
        obtain ⟨g', hg', hge⟩ := HOA.out (by rintro h0; rw [List.length_eq_zero_iff.1 h0] at hx; simp at hx)
        rw [ho] at hg'
        have : g = g' := by cases hg'; rfl
        simp at hge
        omega
       have st : ∀ o v, w1.cell? ⟨g, o, none⟩ = some v → ((W2.alloc (.cells #[.slice oa ts.length cap, .int .i64 0, .int .i64 (s.size : Int), .int .i64 0, .int .i64 0] 61)).setRow w.heap.size #[.int .i64 0, .int .i64 0]).cell? ⟨g, o, none⟩ = some v := fun o v hv => by
        have k1 := (B2.out.cell (p := ⟨g, o, none⟩) hg).trans hv
        exact ((stays_alloc (fun b => b = g) W2 _).trans (stays_row _ (g := w.heap.size) #[.int .i64 0, .int .i64 0] (fun b hb => by omega))) g o v rfl k1
       exact ⟨g, off, ho, st _ _ a0, st _ _ a1, st _ _ a2, st _ _ a3⟩
     · intro g off hg
       have hr := HROW.out
       rcases hr.2 with ⟨h2, _⟩ | ⟨g', cap', cur, hv, hg', hlv, _⟩
       · have : oa = none := by injection h2
         rw [this] at hg; cases hg
       · have : oa = some ⟨g', 0, none⟩ := by injection hv
         rw [this] at hg
         have : g' = g := by cases hg; rfl
         have := (Array.getElem?_eq_some_iff.1 hlv).1
         show g ≠ W2.heap.size
         omega
     · exact (setRow_other _ (show W2.heap.size ≠ w.heap.size by omega)).trans N3.out
   · have e1 : (scanX s).2.1 = 20 := by unfold scanX; rw [if_neg hl, if_neg hf]
     have e2 : (scanX s).2.2.1 = (frontR s).2.1 := by unfold scanX; rw [if_neg hl, if_neg hf]
     have e3 : (scanX s).2.2.2 = (frontR s).2.2 := by unfold scanX; rw [if_neg hl, if_neg hf]
     rw [e1, e2, e3] at HSC
     have hf' : (¬ (frontR s).2.2 = 0) = True := by simpa using hf
     simp only [hf', if_true]
     generalize (frontR s).2.1 = fa at *
     generalize (frontR s).2.2 = fr at *
     generalize (scanX s).1 = ts at *
     clear e1 e2 e3 hf hl hf'
     go_enter Tryz.func27, Tryz.ntmps27
     go_wp2_with fail
     go_at_call 68
     refine (HSC.out _).mono ?_
     rintro e w1 ⟨u, rfl, hrow, hnil, hb⟩
     obtain ⟨oa, cap, rfl, hoa⟩ := row_shape hrow
     have O0 := O0.below hb
     have O2 := Own.new w1 28 #[.int .i64 0, .int .i64 0]
     have P2 := Lib.hid (O2.row #[.int .i64 fa, .int .i64 fr])
     have B1 : Hid (Below w.heap.size w ((w1.alloc (.cells #[.int .i64 0, .int .i64 0] 28)).setRow w1.heap.size #[.int .i64 fa, .int .i64 fr])) :=
      Below.of_row ((((Below.refl _ w).alloc (Nat.le_refl _) (.cells #[.int .i64 0, .int .i64 0] 28)).trans (hb.mono (by simp))).alloc (by have := hb.size; simp at this; omega) _) (by have := hb.size; simp at this; omega) _
     have O0 := Lib.hid ((O0.alloc (.cells #[.int .i64 0, .int .i64 0] 28)).other (g := w1.heap.size) #[.int .i64 fa, .int .i64 fr] (by have := O0.lt; omega))
     clear hb hrow hnil hoa
     go_upto_region 4 with (first | (refine st rowFl rfl rfl O2 rfl rfl (by rfl) (by rfl) (by kernel_rfl) ?_))
     obtain ⟨W2, hW2⟩ : ∃ W, W = ((w1.alloc (.cells #[.int .i64 0, .int .i64 0] 28)).setRow w1.heap.size #[.int .i64 fa, .int .i64 fr]) := ⟨_, rfl⟩
     rw [← hW2] at B1 O0 P2 ⊢
     clear hW2 O2
     have f0 : W2.cell? ⟨w1.heap.size, 0, none⟩ = some (.int .i64 fa) := by rw [cell_of_row _ _ 0 _ _ _ P2.out]; rfl
     obtain ⟨⟨b0, b1⟩, b2, b3⟩ := row2 O0.out
     go_wp2_with fail
     go_region
     go_wp2_with fail
     have p1 := (O0.out.set2 (.int .i64 fa) (.int .i64 1)).drewN 1
     have hbs := B1.out.size
     refine bodyPost_ret (res4 rfl rfl rfl rfl (lv_row rowFl p1 rfl)) rfl ⟨?_, by rfl⟩
     exact below_drewN (((B1.out).setCell (p := ⟨w.heap.size, 0, none⟩) (Nat.le_refl _) _).setCell (p := ⟨w.heap.size, 1, none⟩) (Nat.le_refl _) _) 1
end Go.Proofs.YtfogkobgjojpiaaGreatDoor

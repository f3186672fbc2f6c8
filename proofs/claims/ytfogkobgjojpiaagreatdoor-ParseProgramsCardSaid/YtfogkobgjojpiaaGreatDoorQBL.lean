/- The proof, part 38: texts that belong together, in one. -/
import Derived.Test.YtfogkobgjojpiaaGreatDoorQBK
set_option maxRecDepth 100000
set_option maxHeartbeats 20000000
namespace Go.Proofs.YtfogkobgjojpiaaGreatDoor
open Go.RowKit
set_option linter.unusedVariables false
theorem want_len {L : Int} {σ : Sr} {s : Bs} (h : (σ.want L s).ok = true) : σ.ok = true ∧ (σ.want L s).ts.length + 1 = σ.ts.length := by
 obtain ⟨h1, h2⟩ := want_ok h
 obtain ⟨h3, h4⟩ := has_ne h1
 exact ⟨h3, by rw [h2]; exact h4⟩
theorem step_len {L : Int} {σ : Sr} {s : Bs} (h : σ.has L s = true) : σ.ok = true ∧ σ.step.ok = true ∧ σ.step.ts.length + 1 = σ.ts.length := by
 obtain ⟨h1, h2⟩ := has_ne h
 exact ⟨h1, h1, h2⟩
theorem round_len {L : Int} {n : Nat} {σ : Sr} (h : (roundM L n σ).2.ok = true) : σ.ok = true ∧ (roundM L n σ).2.ts.length + 1 ≤ σ.ts.length := by
 unfold roundM at h ⊢
 obtain ⟨h1, h2⟩ := want_len h
 obtain ⟨h3, h4⟩ := ex_len h1
 obtain ⟨h5, h6⟩ := want_len h3
 exact ⟨h5, by simp only; omega⟩
theorem open_len {L : Int} {d : Int} {σ : Sr} (h : (openM L d σ).ok = true) : σ.ok = true ∧ d < 64 ∧ (openM L d σ).ts.length + 1 = σ.ts.length := by
 unfold openM at h ⊢
 by_cases hc : (σ.has L [123] && decide (64 ≤ d)) = true
 · rw [if_pos hc] at h
   obtain ⟨h1, _⟩ := want_len h
   rw [fail_ok (by decide)] at h1
   exact absurd h1 (by decide)
 · rw [if_neg hc] at h ⊢
   obtain ⟨h1, h2⟩ := want_len h
   have hk := (want_ok h).1
   rw [hk] at hc
   exact ⟨h1, by simpa using hc, h2⟩
theorem assign_len {L : Int} {n : Nat} {p : Int} {σ : Sr} (h : (assignM L n p σ).2.ok = true) : σ.ok = true ∧ (assignM L n p σ).2.ts.length + 1 ≤ σ.ts.length := by
 unfold assignM at h ⊢
 by_cases hc : ((nameM L σ).2.want L [61]).has L [115, 119, 97, 112] = true
 · rw [if_pos hc] at h ⊢
   obtain ⟨h1, h2⟩ := want_len h
   obtain ⟨h3, h4⟩ := want_len h1
   obtain ⟨h5, h6⟩ := ex_len h3
   obtain ⟨h7, h8⟩ := want_len h5
   obtain ⟨h9, h10⟩ := name_len h7
   obtain ⟨h11, h12⟩ := want_len h9
   obtain ⟨h13, _, h14⟩ := step_len hc
   obtain ⟨h15, h16⟩ := want_len h13
   obtain ⟨h17, h18⟩ := name_len h15
   exact ⟨h17, by simp only; omega⟩
 · rw [if_neg hc] at h ⊢
   obtain ⟨h1, h2⟩ := want_len h
   obtain ⟨h3, h4⟩ := ex_len h1
   obtain ⟨h5, h6⟩ := want_len h3
   obtain ⟨h7, h8⟩ := name_len h5
   exact ⟨h7, by simp only; omega⟩
theorem st_len {L : Int} : ∀ n : Nat,
 (∀ (d : Int) (σ : Sr), (stM L n d σ).2.ok = true → σ.ok = true ∧ (stM L n d σ).2.ts.length + min n 1 ≤ σ.ts.length) ∧
 (∀ (d : Int) (acc : List St) (σ : Sr), (stsM L n d acc σ).2.ok = true → σ.ok = true ∧ (stsM L n d acc σ).2.ts.length ≤ σ.ts.length)
 | 0 => ⟨fun d σ h => ⟨by simpa [stM] using h, by simp [stM]⟩, fun d acc σ h => ⟨by simpa [stsM] using h, by simp [stsM]⟩⟩
 | n + 1 => by
   obtain ⟨i1, i2⟩ := st_len n
   refine ⟨fun d σ h => ?_, fun d acc σ h => ?_⟩
   · simp only [stM] at h ⊢
     by_cases c1 : σ.has L [105, 102] = true
     · rw [if_pos c1] at h ⊢
       obtain ⟨k1, k2, k3⟩ := step_len c1
       by_cases c2 : (stsM L n (d + 1) [] (openM L d (roundM L n σ.step).2)).2.has L [101, 108, 115, 101] = true
       · rw [if_pos c2] at h ⊢
         obtain ⟨h1, h2⟩ := i2 _ _ _ h
         obtain ⟨h3, _, h4⟩ := open_len h1
         obtain ⟨h5, h6, h7⟩ := step_len c2
         obtain ⟨h8, h9⟩ := i2 _ _ _ h5
         obtain ⟨h10, _, h11⟩ := open_len h8
         obtain ⟨h12, h13⟩ := round_len h10
         exact ⟨k1, by simp only; omega⟩
       · rw [if_neg c2] at h ⊢
         obtain ⟨h8, h9⟩ := i2 _ _ _ h
         obtain ⟨h10, _, h11⟩ := open_len h8
         obtain ⟨h12, h13⟩ := round_len h10
         exact ⟨k1, by simp only; omega⟩
     rw [if_neg c1] at h ⊢
     by_cases c3 : σ.has L [119, 104, 105, 108, 101] = true
     · rw [if_pos c3] at h ⊢
       obtain ⟨k1, k2, k3⟩ := step_len c3
       obtain ⟨h8, h9⟩ := i2 _ _ _ h
       obtain ⟨h10, _, h11⟩ := open_len h8
       obtain ⟨h12, h13⟩ := round_len h10
       exact ⟨k1, by simp only; omega⟩
     rw [if_neg c3] at h ⊢
     by_cases c4 : σ.has L [108, 111, 99, 107] = true
     · rw [if_pos c4] at h ⊢
       obtain ⟨k1, k2, k3⟩ := step_len c4
       obtain ⟨h8, h9⟩ := i2 _ _ _ h
       obtain ⟨h10, _, h11⟩ := open_len h8
       obtain ⟨h12, h13⟩ := name_len h10
       exact ⟨k1, by simp only; omega⟩
     rw [if_neg c4] at h ⊢
     by_cases c5 : σ.has L [112, 114, 105, 110, 116] = true
     · rw [if_pos c5] at h ⊢
       obtain ⟨k1, k2, k3⟩ := step_len c5
       obtain ⟨h8, h9⟩ := want_len h
       obtain ⟨h10, h11⟩ := ex_len h8
       exact ⟨k1, by simp only; omega⟩
     rw [if_neg c5] at h ⊢
     by_cases c6 : σ.has L [115, 107, 105, 112] = true
     · rw [if_pos c6] at h ⊢
       obtain ⟨k1, k2, k3⟩ := step_len c6
       obtain ⟨h8, h9⟩ := want_len h
       exact ⟨k1, by simp only; omega⟩
     rw [if_neg c6] at h ⊢
     obtain ⟨h1, h2⟩ := assign_len h
     exact ⟨h1, by omega⟩
   · simp only [stsM] at h ⊢
     by_cases hok : σ.ok = true
     · rw [if_pos hok] at h ⊢
       refine ⟨hok, ?_⟩
       by_cases c1 : σ.has L [125] = true
       · rw [if_pos c1]
         obtain ⟨k1, k2, k3⟩ := step_len c1
         simp only; omega
       · rw [if_neg c1] at h ⊢
         obtain ⟨h1, h2⟩ := i2 _ _ _ h
         obtain ⟨h3, h4⟩ := i1 _ _ h1
         omega
     · rw [if_neg hok] at h ⊢
       exact ⟨h, Nat.le_refl _⟩
theorem stM_len {L : Int} {n : Nat} {d : Int} {σ : Sr} (h : (stM L (n + 1) d σ).2.ok = true) : (stM L (n + 1) d σ).2.ts.length + 1 ≤ σ.ts.length := by
 have := ((st_len (L := L) (n + 1)).1 d σ h).2
 omega
theorem stsM_len {L : Int} {n : Nat} {d : Int} {acc : List St} {σ : Sr} (h : (stsM L n d acc σ).2.ok = true) : σ.ok = true ∧ (stsM L n d acc σ).2.ts.length ≤ σ.ts.length := (st_len n).2 d acc σ h
open Go.RowKit
set_option linter.unusedVariables false
def StC (n : Nat) : Prop := ∀ (c : Par) (w : World) (σ : Sr) (d : Int), Rs c w σ → σ.ok = true → 0 ≤ d → d ≤ 64 → 3 * σ.ts.length + 1 ≤ n →
 Calls Tryz.prog 163 #[c.ptr, .int .i64 d] w (RsPost c w (stM c.L n d σ) (stW w.heap.size))
def StsC (n : Nat) : Prop := ∀ (c : Par) (w : World) (σ : Sr) (d : Int), Rs c w σ → 0 ≤ d → d ≤ 65 → (σ.ok = true → d ≤ 64) → (σ.ok = true → 3 * σ.ts.length + 2 ≤ n) →
 Calls Tryz.prog 124 #[c.ptr, .int .i64 d] w (RsPost c w (stsM c.L n d [] σ) (fun l v W => stsVal w.heap.size l v W))
def SsI (c : Par) (w : World) (d : Int) (Y : List St × Sr) (m : Nat) (v : Value) (W : World) : Prop :=
 ∃ (σ : Sr) (l : List St) (xs : List Value), As c w W σ ∧ W.ownsRow w.heap.size 69 7 v l.length xs ∧ stsV (fun b => w.heap.size ≤ b ∧ v.ownBlock ≠ some b) W l xs ∧ stsM c.L m d l σ = Y ∧ (σ.ok = true → d ≤ 64 ∧ 3 * σ.ts.length + 2 ≤ m) ∧ (σ.ok = true → l.length + σ.ts.length ≤ 65536)
theorem r_stmts {n : Nat} (HI : ∀ m, m < n → StC m) : StsC n := by
 intro c w σ d R hd0 hd1 hd2 hn
 have hsm : σ.ts.length ≤ 65536 := by obtain ⟨k, R, h⟩ := R; rw [h, Par.at_len]; have := R.s.small.1; omega
 have HSM : Hid (∀ m, m < n → ∀ W σ, Rs c W σ → σ.ok = true → d ≤ 64 → 3 * σ.ts.length + 1 ≤ m → Calls Tryz.prog 163 #[c.ptr, .int .i64 d] W (RsPost c W (stM c.L m d σ) (stW W.heap.size))) := fun m hm W σ R hok hd hl => HI m hm c W σ d R hok hd0 hd hl
 have HTK : Hid (∀ W σ, Rs c W σ → Calls Tryz.prog 69 #[c.ptr, .string ⟨#[125]⟩] W fun e w' => e = .returned (.bool (σ.has c.L [125])) ∧ Fr c W w' ∧ Rs c w' (σ.take c.L [125])) := fun W σ R => r_take R ⟨#[125]⟩
 have HOO : Hid (∀ W σ, Rs c W σ → Calls Tryz.prog 29 #[c.ptr] W fun e w' => e = .returned (.bool σ.ok) ∧ Below W.heap.size W w') := fun W σ R => r_okS R
 have HS := Lib.hid R.s
 have hX := Lib.hid R.lt
 obtain ⟨Y, hY⟩ : ∃ Y, Y = stsM c.L n d [] σ := ⟨_, rfl⟩
 rw [← hY]
 have B0 : Hid (SsI c w d Y n (.slice none 0 0) w ∧ n ≤ n) := ⟨⟨σ, [], [], R.as, World.ownsRow_nil _ _ _ _, rfl, hY.symm, fun h => ⟨hd2 h, hn h⟩, fun _ => by simpa using hsm⟩, Nat.le_refl _⟩
 clear hn hd2 R hY hsm HI
 unfold Par.ptr at *
 go_enter Tryz.func124, Tryz.ntmps124
 go_wp2_with fail
 go_loopg [5] n (fun m u W => SsI c w d Y m u W ∧ m ≤ n)
 case atStart => exact B0.out
 case round =>
  obtain ⟨⟨σj, l, xs, A1, hrow, hsv, hL, hfu, hle⟩, hgn⟩ := hrel
  have A := Lib.hid A1
  have ROW := Lib.hid hrow
  have SV := Lib.hid hsv
  have HL := Lib.hid hL
  have HFU := Lib.hid (And.intro hfu hle)
  have HGN := Lib.hid hgn
  obtain ⟨oa, cap, rfl, hoa⟩ := row_shape hrow
  have HOA := Lib.hid hoa
  clear A1 hrow hsv hL hfu hle hoa hgn
  have HO := Lib.hid (HOO.out _ _ (A.out.rs HS.out))
  by_cases hok : σj.ok = true
  · obtain ⟨m, rfl⟩ : ∃ m, gk = m + 1 := ⟨gk - 1, by have := (HFU.out.1 hok).2; omega⟩
    have HOK := Lib.hid hok
    rw [hok] at HO
    clear hok
    have HT := Lib.hid (fun W => HTK.out W σj)
    by_cases hc : σj.has c.L [125] = true
    · have HC := Lib.hid hc
      have HFIN : Hid (Y = (l, σj.step)) := by
       rw [Hid, ← HL.out]
       simp only [stsM]
       rw [if_pos HOK.out, if_pos hc]
      rw [hc] at HT
      clear hc
      go_wp2_with fail
      go_at_call 29
      refine (HO.out).mono ?_
      rintro e w1 ⟨rfl, hb⟩
      have A := Lib.hid (A.out.below hb)
      have ROW := Lib.hid (row_below ROW.out hb)
      have SV := Lib.hid (stsV_stays (stays_below hb) (fun b hb => hb) SV.out)
      clear hb HO
      go_wp2_with fail
      go_at_call 69
      refine (HT.out _ (A.out.rs HS.out)).mono ?_
      rintro e w8 ⟨rfl, hf, hr⟩
      have A := Lib.hid (A.out.call hf (show Rs c w8 σj.step from by rw [show σj.take c.L [125] = σj.step by unfold Sr.take; rw [if_pos HC.out]] at hr; exact hr))
      have ROW := Lib.hid (row_fr ROW.out hf hX.out)
      have SV := Lib.hid (stsV_stays (stays_fr hf (fun b hb => by have := hb.1; have := hX.out; omega)) (fun b hb => hb) SV.out)
      clear hf hr
      go_wp2_with fail
      go_ret
      show RsPost c w Y _ _ _
      rw [HFIN.out]
      refine ⟨A.out.fr, _, rfl, ⟨_, _, rfl, ?_⟩, A.out.rs HS.out⟩
      cases l with
      | nil => exact .inl rfl
      | cons x xx =>
        obtain ⟨g, rfl, hg⟩ := HOA.out (by simp)
        exact .inr ⟨g, 0, rfl, hg, stsIn_of (stsV_stays (R' := fun b => w.heap.size ≤ b) (Stays.refl _ _) (fun b hb => hb.1) SV.out) (row_cells ROW.out rfl)⟩
    · have HC := Lib.hid (show σj.has c.L [125] = false by simpa using hc)
      have HKZ : Hid (∀ W, Rs c W σj → Calls Tryz.prog 163 #[.pointer (some ⟨c.X, 0, none⟩), .int .i64 d] W (RsPost c W (stM c.L m d σj) (stW W.heap.size))) := fun W R => HSM.out m (by have := HGN.out; omega) W σj R HOK.out (HFU.out.1 HOK.out).1 (by have := (HFU.out.1 HOK.out).2; omega)
      have HNX : Hid (stsM c.L m d (l ++ [(stM c.L m d σj).1]) (stM c.L m d σj).2 = Y) := by
       rw [Hid, ← HL.out]
       conv => rhs; simp only [stsM]
       rw [if_pos HOK.out, if_neg hc]
      have HZL : Hid ((stM c.L m d σj).2.ok = true → (stM c.L m d σj).2.ts.length + 1 ≤ σj.ts.length) := by
       obtain ⟨m2, rfl⟩ : ∃ m2, m = m2 + 1 := ⟨m - 1, by have := (HFU.out.1 HOK.out).2; omega⟩
       exact fun h => stM_len h
      obtain ⟨Z, hZ⟩ : ∃ Z, Z = stM c.L m d σj := ⟨_, rfl⟩
      rw [← hZ] at HKZ HNX HZL
      clear hZ
      obtain ⟨s2, σ1⟩ := Z
      rw [HC.out] at HT
      clear hc
      go_wp2_with fail
      go_at_call 29
      refine (HO.out).mono ?_
      rintro e w1 ⟨rfl, hb⟩
      have A := Lib.hid (A.out.below hb)
      have ROW := Lib.hid (row_below ROW.out hb)
      have SV := Lib.hid (stsV_stays (stays_below hb) (fun b hb => hb) SV.out)
      clear hb HO
      go_wp2_with fail
      go_at_call 69
      refine (HT.out _ (A.out.rs HS.out)).mono ?_
      rintro e w2 ⟨rfl, hf, hr⟩
      have A := Lib.hid (A.out.call hf (show Rs c w2 σj from by rw [show σj.take c.L [125] = σj by unfold Sr.take; rw [if_neg (by rw [HC.out]; decide)]] at hr; exact hr))
      have ROW := Lib.hid (row_fr ROW.out hf hX.out)
      have SV := Lib.hid (stsV_stays (stays_fr hf (fun b hb => by have := hb.1; have := hX.out; omega)) (fun b hb => hb) SV.out)
      clear hf hr
      go_wp2_with fail
      go_at_call 163
      refine (HKZ.out _ (A.out.rs HS.out)).mono ?_
      rintro e w3 ⟨hf3, v3, rfl, ⟨a3, c3, a4, c4, a5, c5, rfl, hV3, hV4, hV5⟩, hR3⟩
      have hz2 : w.heap.size ≤ w2.heap.size := Keep.size A.out.fr
      have hz23 : w2.heap.size ≤ w3.heap.size := Keep.size hf3
      have row3 := (row_fr ROW.out hf3 hX.out).alloc (.cells #[.int .u8 s2.kind, .string s2.name, .string s2.other, .slice a3 s2.e.length c3, .slice a4 s2.body.length c4, .slice a5 s2.els.length c5, .int .i64 s2.pos] 69)
      have hlt2 := ROW.out.lt
      have A := Lib.hid ((A.out.call hf3 hR3).alloc (.cells #[.int .u8 s2.kind, .string s2.name, .string s2.other, .slice a3 s2.e.length c3, .slice a4 s2.body.length c4, .slice a5 s2.els.length c5, .int .i64 s2.pos] 69))
      have SV3 := stsV_stays (stays_fr hf3 (fun b hb => by have := hb.1; have := hX.out; omega)) (fun b hb => hb) SV.out
      have NV : stV (fun b => w.heap.size ≤ b ∧ (Value.slice oa l.length cap).ownBlock ≠ some b ∧ b < w3.heap.size) w3 s2 [.int .u8 s2.kind, .string s2.name, .string s2.other, .slice a3 s2.e.length c3, .slice a4 s2.body.length c4, .slice a5 s2.els.length c5, .int .i64 s2.pos] := by
       have hq : ∀ b, w2.heap.size ≤ b ∧ b < w3.heap.size → w.heap.size ≤ b ∧ (Value.slice oa l.length cap).ownBlock ≠ some b ∧ b < w3.heap.size := fun b hb => ⟨by omega, fun e => by have := (hlt2 b e).2; omega, hb.2⟩
       exact ⟨a3, c3, a4, c4, a5, c5, rfl, exsAt_mono (exsAt_in hV3) hq, stsAt_mono (stsAt_in hV4) hq, stsAt_mono (stsAt_in hV5) hq⟩
      have SVN := stsV_snoc (stsV_stays (R' := fun b => w.heap.size ≤ b ∧ (Value.slice oa l.length cap).ownBlock ≠ some b ∧ b < w3.heap.size) (Stays.refl _ w3) (fun b hb => ⟨hb.1.1, hb.1.2, hb.2⟩) (stsV_in SV3)) NV
      have SVN := Lib.hid (stsV_stays (stays_alloc _ w3 (.cells #[.int .u8 s2.kind, .string s2.name, .string s2.other, .slice a3 s2.e.length c3, .slice a4 s2.body.length c4, .slice a5 s2.els.length c5, .int .i64 s2.pos] 69)) (fun b hb => hb) SVN)
      have hz3 : w.heap.size ≤ w3.heap.size := by omega
      have hl6 : l.length ≤ 65536 := by have := HFU.out.2 HOK.out; omega
      obtain ⟨i0, hi, hi0, hi1, hi2⟩ := info_parts infoSt
      have N3 := Own.new w3 69 #[.int .u8 s2.kind, .string s2.name, .string s2.other, .slice a3 s2.e.length c3, .slice a4 s2.body.length c4, .slice a5 s2.els.length c5, .int .i64 s2.pos]
      have HNEWS : Hid (∀ jj u, [Value.int .u8 s2.kind, .string s2.name, .string s2.other, .slice a3 s2.e.length c3, .slice a4 s2.body.length c4, .slice a5 s2.els.length c5, .int .i64 s2.pos][jj]? = some u → (w3.alloc (.cells #[.int .u8 s2.kind, .string s2.name, .string s2.other, .slice a3 s2.e.length c3, .slice a4 s2.body.length c4, .slice a5 s2.els.length c5, .int .i64 s2.pos] 69)).cell? ((⟨w3.heap.size, 0, none⟩ : Addr).add jj) = some u) := World.news_of_block N3
      have HSZ := Lib.hid (World.size_alloc w3 (.cells #[.int .u8 s2.kind, .string s2.name, .string s2.other, .slice a3 s2.e.length c3, .slice a4 s2.body.length c4, .slice a5 s2.els.length c5, .int .i64 s2.pos] 69))
      have HZ23 := Lib.hid hz23
      clear hf3 hR3 hV3 hV4 hV5 SV3 NV hz2 hz23 hlt2
      go_wp2_with (at_builtin; refine wpList_append_lies _ rfl _ _ 62 rfl w.heap.size 69 i0 _ 7 120 Tryz.underlying62 hi hi0 hi1 hi2 rfl (by decide) _ _ _ rfl row3 ⟨w3.heap.size, 0, none⟩ 1 1 [.int .u8 s2.kind, .string s2.name, .string s2.other, .slice a3 s2.e.length c3, .slice a4 s2.body.length c4, .slice a5 s2.els.length c5, .int .i64 s2.pos] rfl rfl HNEWS.out (by simp [Value.oneCell']) (by decide) (by simp only [maxLen]; omega) (by omega) (by rw [HSZ.out]; omega) _ rfl ?_; intro g2 cap2 w4 hown' hgrow hlies hglt; have ROW4 := Lib.hid hown'; have GR := Lib.hid hgrow; have LIES := Lib.hid hlies; clear hown' hgrow hlies)
      go_roundg m
      case measure => omega
      case rel =>
       have hx := hX.out
       refine ⟨⟨σ1, l ++ [s2], _, A.out.grown GR.out (fun r hr => ?_), by rw [List.length_append]; exact ROW4.out, ?_, HNX.out, fun h => ⟨(HFU.out.1 HOK.out).1, by have := (HFU.out.1 HOK.out).2; have := HZL.out h; omega⟩, fun h => by have := HFU.out.2 HOK.out; have := HZL.out h; rw [List.length_append, List.length_singleton]; omega⟩, by have := HGN.out; omega⟩
       · have h2 := (row3.lt r hr).1
         exact ⟨h2, by omega⟩
       · refine stsV_stays (stays_grown GR.out (fun b hb => hb.2.1)) (fun b hb => ⟨hb.1, ?_⟩) SVN.out
         intro e
         have e : g2 = b := by simpa [Value.ownBlock] using e
         subst e
         rcases LIES.out with h | h
         · exact hb.2.1 h
         · rw [HSZ.out] at h; have := hb.2.2; omega
  · have hb : σj.ok = false := by simpa using hok
    rw [hb] at HO
    have HFIN : Hid (Y = (l, σj)) := by
     rw [Hid, ← HL.out]
     exact bad_sts hb gk d l
    clear hok hb
    go_wp2_with fail
    go_at_call 29
    refine (HO.out).mono ?_
    rintro e w1 ⟨rfl, hb⟩
    have A := Lib.hid (A.out.below hb)
    have ROW := Lib.hid (row_below ROW.out hb)
    have SV := Lib.hid (stsV_stays (stays_below hb) (fun b hb => hb) SV.out)
    clear hb HO
    go_wp2_with fail
    go_ret
    show RsPost c w Y _ _ _
    rw [HFIN.out]
    refine ⟨A.out.fr, _, rfl, ⟨_, _, rfl, ?_⟩, A.out.rs HS.out⟩
    cases l with
    | nil => exact .inl rfl
    | cons x xx =>
      obtain ⟨g, rfl, hg⟩ := HOA.out (by simp)
      exact .inr ⟨g, 0, rfl, hg, stsIn_of (stsV_stays (R' := fun b => w.heap.size ≤ b) (Stays.refl _ _) (fun b hb => hb.1) SV.out) (row_cells ROW.out rfl)⟩
theorem st_step2 {n : Nat} (HB : StsC n) : StC (n + 1) := by
 intro c w σ d R hok hd0 hd1 hn
 have hb : ∀ σ' : Sr, (σ'.ok = true → σ'.ts.length + 1 ≤ σ.ts.length) → ∀ W, Rs c W σ' → Calls Tryz.prog 189 #[c.ptr, .int .i64 d] W (RsPost c W (stsM c.L n (d + 1) [] (openM c.L d σ')) (fun l v W' => stsVal W.heap.size l v W')) := by
  intro σ' hl W RW
  refine r_block RW hd0 (by omega) fun W2 R2 => HB c W2 _ (d + 1) R2 (by omega) (by omega) (fun h => ?_) (fun h => ?_)
  · have := (open_len h).2.1; omega
  · obtain ⟨h1, _, h2⟩ := open_len h
    have := hl h1
    omega
 have hr : ∀ s, σ.has c.L s = true → ∀ W, Rs c W σ.step → Calls Tryz.prog 188 #[c.ptr] W (RsPost c W (roundM c.L n σ.step) (fun e v W' => exsVal W.heap.size [e] v W')) := by
  intro s hs W RW
  refine r_round RW fun _ => ?_
  have := (step_len hs).2.2
  omega
 have hx : ∀ σ' : Sr, (σ'.ok = true → σ'.ts.length + 1 ≤ σ.ts.length) → ∀ W, Rs c W σ' → Calls Tryz.prog 190 #[c.ptr, .int .i64 1, .int .i64 0] W (RsPost c W (exM c.L n 1 0 σ') (exR W.heap.size)) := by
  intro σ' hl W RW
  refine (exs_all n).2 c W σ' 1 0 RW (by decide) (by decide) (by decide) (by decide) (fun h => ?_)
  have := hl h
  omega
 simp only [stM]
 by_cases c1 : σ.has c.L [105, 102] = true
 · rw [if_pos c1]
   have k := step_len c1
   have hX2 : (roundM c.L n σ.step).2.ok = true → (roundM c.L n σ.step).2.ts.length + 1 ≤ σ.ts.length := fun h => by have := (round_len h).2; omega
   by_cases c2 : (stsM c.L n (d + 1) [] (openM c.L d (roundM c.L n σ.step).2)).2.has c.L [101, 108, 115, 101] = true
   · rw [if_pos c2]
     refine rs_ifelse R hd0 hd1 c1 (hr _ c1) (hb _ hX2) c2 (hb _ fun _ => ?_)
     obtain ⟨h5, h6, h7⟩ := step_len c2
     obtain ⟨h8, h9⟩ := stsM_len h5
     obtain ⟨h10, _, h11⟩ := open_len h8
     have := hX2 h10
     omega
   · rw [if_neg c2]
     exact rs_if R hd0 hd1 c1 (hr _ c1) (hb _ hX2) (by simpa using c2)
 rw [if_neg c1]
 have c1 : σ.has c.L [105, 102] = false := by simpa using c1
 by_cases c2 : σ.has c.L [119, 104, 105, 108, 101] = true
 · rw [if_pos c2]
   have k := step_len c2
   exact rs_while R hd0 hd1 c1 c2 (hr _ c2) (hb _ fun h => by have := (round_len h).2; omega)
 rw [if_neg c2]
 have c2 : σ.has c.L [119, 104, 105, 108, 101] = false := by simpa using c2
 by_cases c3 : σ.has c.L [108, 111, 99, 107] = true
 · rw [if_pos c3]
   have k := step_len c3
   exact rs_lock R hd0 hd1 c1 c2 c3 (hb _ fun h => by have := (name_len h).2; omega)
 rw [if_neg c3]
 have c3 : σ.has c.L [108, 111, 99, 107] = false := by simpa using c3
 by_cases c4 : σ.has c.L [112, 114, 105, 110, 116] = true
 · rw [if_pos c4]
   have k := step_len c4
   exact rs_print R hd0 hd1 c1 c2 c3 c4 (hx _ fun h => by omega)
 rw [if_neg c4]
 have c4 : σ.has c.L [112, 114, 105, 110, 116] = false := by simpa using c4
 by_cases c5 : σ.has c.L [115, 107, 105, 112] = true
 · rw [if_pos c5]
   exact rs_skip R hd0 hd1 c1 c2 c3 c4 c5
 rw [if_neg c5]
 have c5 : σ.has c.L [115, 107, 105, 112] = false := by simpa using c5
 refine rs_assign (Y := assignM c.L n (hereM c.L σ.ts).pos σ) R hd0 hd1 c1 c2 c3 c4 c5 fun W RW => ?_
 unfold assignM
 have hq : ((nameM c.L σ).2.want c.L [61]).ok = true → ((nameM c.L σ).2.want c.L [61]).ts.length + 1 ≤ σ.ts.length := fun h => by
  obtain ⟨h3, h4⟩ := want_len h
  have := (name_len h3).2
  omega
 by_cases c6 : ((nameM c.L σ).2.want c.L [61]).has c.L [115, 119, 97, 112] = true
 · rw [if_pos c6]
   refine ra_swap RW c6 (hx _ fun h => ?_)
   obtain ⟨h7, h8⟩ := want_len h
   obtain ⟨h9, h10⟩ := name_len h7
   obtain ⟨h11, h12⟩ := want_len h9
   obtain ⟨h13, _, h14⟩ := step_len c6
   have := hq h13
   omega
 · rw [if_neg c6]
   exact ra_plain RW (by simpa using c6) (hx _ hq)
theorem sts_all : ∀ n : Nat, (∀ m, m ≤ n → StC m) ∧ (∀ m, m ≤ n → StsC m)
 | 0 => ⟨fun m hm c w σ d R hok hd0 hd1 hn => by omega, fun m hm => r_stmts fun k hk => by omega⟩
 | n + 1 => by
   obtain ⟨i1, i2⟩ := sts_all n
   have a : ∀ m, m ≤ n + 1 → StC m := fun m hm => by
    by_cases h : m ≤ n
    · exact i1 m h
    · obtain rfl : m = n + 1 := by omega
      exact st_step2 (i2 n (Nat.le_refl _))
   exact ⟨a, fun m hm => r_stmts fun k hk => a k (by omega)⟩
theorem stmts_all (n : Nat) : StsC n := (sts_all n).2 n (Nat.le_refl _)
end Go.Proofs.YtfogkobgjojpiaaGreatDoor

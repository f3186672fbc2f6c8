/- The lexer's reference: over blanks and remarks. -/
import Derived.Test.YteedpojchapjgaaDoorRefs2
namespace Go.Proofs.YteedpojchapjgaaDoor
open Go.RowKit
set_option linter.unusedVariables false

theorem u8_int {a b : UInt8} : ((a.toNat : Int) = (b.toNat : Int)) ↔ a = b :=
  ⟨fun h => UInt8.toNat_inj.1 (by omega), fun h => by rw [h]⟩
theorem blank_not47 {x : UInt8} (h : blankB (x.toNat : Int) = true) : ¬ x = 47 := by
  intro e; subst e; revert h; decide
theorem prefix_no {x : UInt8} {r : List UInt8} (h : ¬ x = 47) : Lib.hasPrefix (x :: r) slashes = false := by
  cases hp : Lib.hasPrefix (x :: r) slashes with
  | false => rfl
  | true =>
    unfold Lib.hasPrefix slashes at hp
    simp only [List.isPrefixOf_cons_cons, Bool.and_eq_true, beq_iff_eq] at hp
    exact absurd hp.1.symm h
theorem prefix_one (x : UInt8) : Lib.hasPrefix [x] slashes = false := by
  unfold Lib.hasPrefix slashes
  simp [List.isPrefixOf]
theorem prefix_two (x y : UInt8) (r : List UInt8) : Lib.hasPrefix (x :: y :: r) slashes = (decide (x = 47) && decide (y = 47)) := by
  unfold Lib.hasPrefix slashes
  simp only [List.isPrefixOf_cons_cons, List.isPrefixOf_nil_left, Bool.and_true]
  congr 1
  · by_cases hx : x = 47
    · subst hx; rfl
    · rw [decide_eq_false hx]; simpa using fun h : 47 = x => hx h.symm
  · by_cases hx : y = 47
    · subst hx; rfl
    · rw [decide_eq_false hx]; simpa using fun h : 47 = y => hx h.symm
theorem pass_cons (x : UInt8) (r : List UInt8) (h : blankB (x.toNat : Int) = true) : passN (x :: r) = 1 + passN r := by
  have h1 : stepN (x :: r) = spanN blankB r + 1 := by
    unfold stepN
    rw [prefix_no (blank_not47 h), if_neg (by decide)]
    simp only [spanN]
    rw [if_pos h]
  have h2 : passN (x :: r) = spanN blankB r + 1 + passN (r.drop (spanN blankB r)) := by
    rw [passN_step (by rw [h1]; omega), h1]; rfl
  have h3 : passN r = spanN blankB r + passN (r.drop (spanN blankB r)) := by
    by_cases h0 : spanN blankB r = 0
    · rw [h0]; simp
    · have hs : stepN r = spanN blankB r := by
        unfold stepN
        cases hp : Lib.hasPrefix r slashes with
        | false => rw [if_neg (by decide)]
        | true =>
          exfalso
          apply h0
          cases r with
          | nil => rfl
          | cons y t =>
            by_cases hy : y = 47
            · subst hy; simp only [spanN]; rw [if_neg (by decide)]
            · rw [prefix_no hy] at hp; cases hp
      have h4 := passN_step (l := r) (by rw [hs]; exact h0)
      rw [hs] at h4
      exact h4
  omega
theorem pass_remark {l : List UInt8} (h : Lib.hasPrefix l slashes = true) : passN l = spanN feedB l + passN (l.drop (spanN feedB l)) := by
  have hs : stepN l = spanN feedB l := by unfold stepN; rw [if_pos h]
  by_cases h0 : spanN feedB l = 0
  · rw [h0]; simp
  · have h4 := passN_step (l := l) (by rw [hs]; exact h0)
    rw [hs] at h4
    exact h4
theorem pass_none {l : List UInt8} {x : UInt8} {r : List UInt8} (e : l = x :: r) (h : Lib.hasPrefix l slashes = false) (hb : blankB (x.toNat : Int) = false) : passN l = 0 := by
  apply passN_stop
  unfold stepN
  rw [h, if_neg (by decide), e]
  simp only [spanN]
  rw [if_neg (by rw [hb]; decide)]
set_option maxRecDepth 100000 in
set_option maxHeartbeats 4000000 in
theorem skip_any (s : ByteArray) (hs : s.size ≤ 281474976710656) (p : Nat) (hp : p ≤ s.size) (w : World) : Calls Tryd.prog 41 #[.string s, .int .i64 p] w fun e w' => e = .returned (.int .i64 ((p + passN (bytesFrom s p) : Nat) : Int)) ∧ w = w' := by
  obtain ⟨R, hR⟩ : ∃ R, Hid (R = p + passN (bytesFrom s p)) := ⟨_, rfl⟩
  rw [← hR.out]
  go_enter Tryd.func41, Tryd.ntmps41
  go_wp2_with fail
  go_loopw [1, 4] (fun i _ wr => w = wr ∧ ∃ k : Nat, k ≤ s.size ∧ i = .int .i64 k ∧ Hid (k + passN (bytesFrom s k) = R)) (fun i _ _ => s.size - (intOf i).toNat)
  case atStart => exact ⟨rfl, p, hp, rfl, hR.out.symm⟩
  case round =>
    obtain ⟨rfl, k, hk, rfl, hpa⟩ := hrel
    by_cases hlt : k < s.size
    · have hy0 := PlainAid.bt_nonneg s k
      have hy1 := PlainAid.bt_le s k
      obtain ⟨c, hc⟩ : ∃ c, Hid (c = PlainAid.bt s k) := ⟨_, rfl⟩
      have hbt : ∀ h : k < s.size, ((s[k]'h).toNat : Int) = c := fun h => by rw [hc.out]; exact PlainAid.get_bt s k h
      rw [← hc.out] at hy0 hy1
      have hfr := Lib.hid (from_at s k hlt)
      have hu := Lib.hid (hbt hlt)
      have hlt' : (k : Int) < (s.size : Int) := by omega
      by_cases hb : blankB c = true
      · have HB : Hid (∀ W : World, Calls Tryd.prog 61 #[.int .u8 c] W fun e w' => e = .returned (.bool true) ∧ W = w') := fun W => by
          have q := rblank_any c hy0 hy1 W
          rw [hb] at q; exact q
        have hn : Hid (k + 1 + passN (bytesFrom s (k + 1)) = R) := by
          rw [Hid, ← hpa.out, hfr.out, pass_cons _ _ (by rw [hu.out]; exact hb)]; omega
        clear hb
        go_wp2_with (go_at_call 61; refine (HB.out _).mono ?_; rintro e w' ⟨rfl, rfl⟩)
        go_roundw
        case rel => exact ⟨by trivial, k + 1, by omega, by go_num, hn⟩
        case measure => simp [intOf]; omega
      · have hbf : blankB c = false := by simpa using hb
        have HB : Hid (∀ W : World, Calls Tryd.prog 61 #[.int .u8 c] W fun e w' => e = .returned (.bool false) ∧ W = w') := fun W => by
          have q := rblank_any c hy0 hy1 W
          rw [hbf] at q; exact q
        have HBF := Lib.hid hbf
        clear hb hbf
        by_cases h47 : c = 47
        · have hq : (c == 47) = true := int_t h47
          have hq' : (c != 47) = false := by simp [h47]
          have hx : Hid (s[k] = 47) := by
            refine u8_int.1 ?_
            rw [hu.out, h47]; rfl
          have H47 := Lib.hid h47
          by_cases hl2 : k + 1 < s.size
          · have hfr2 := Lib.hid (from_at s (k + 1) hl2)
            obtain ⟨d, hd⟩ : ∃ d, Hid (d = PlainAid.bt s (k + 1)) := ⟨_, rfl⟩
            have hbt2 : ∀ h : k + 1 < s.size, ((s[k + 1]'h).toNat : Int) = d := fun h => by rw [hd.out]; exact PlainAid.get_bt s (k + 1) h
            have hu2 := Lib.hid (hbt2 hl2)
            have hl2' : (k : Int) + 1 < (s.size : Int) := by omega
            by_cases d47 : d = 47
            · -- a remark
              have hq2 : (d == 47) = true := int_t d47
              have hq2' : (d != 47) = false := by simp [d47]
              have hy : Hid (s[k + 1] = 47) := by
                refine u8_int.1 ?_
                rw [hu2.out, d47]; rfl
              have hpre : Hid (Lib.hasPrefix (bytesFrom s k) slashes = true) := by
                rw [Hid, hfr.out, hfr2.out, prefix_two, hx.out, hy.out]; decide
              obtain ⟨E, hE⟩ : ∃ E, Hid (E = k + spanN feedB (bytesFrom s k)) := ⟨_, rfl⟩
              have hER : Hid (E + passN (bytesFrom s E) = R) := by
                rw [Hid, ← hpa.out, pass_remark hpre.out, from_drop, ← hE.out, hE.out]; omega
              have hEk : Hid (k < E) := by
                have : 0 < spanN feedB (bytesFrom s k) := by rw [hfr.out]; exact span_pos (by rw [hu.out, H47.out]; decide)
                rw [Hid, hE.out]; omega
              have hEs : Hid (E ≤ s.size) := by
                have := spanN_le feedB (bytesFrom s k)
                rw [from_len] at this
                rw [Hid, hE.out]; omega
              clear h47 d47
              go_wp2_with (go_at_call 61; refine (HB.out _).mono ?_; rintro e w' ⟨rfl, rfl⟩)
              go_loopw [1] (fun i wr => w = wr ∧ ∃ j : Nat, k ≤ j ∧ j ≤ s.size ∧ i = .int .i64 j ∧ Hid (j + spanN feedB (bytesFrom s j) = E)) (fun i _ => s.size - (intOf i).toNat)
              case atStart => exact ⟨rfl, k, Nat.le_refl _, hk, rfl, hE.out.symm⟩
              case round =>
                clear hq hq' hq2 hq2' hbt hbt2 hu hu2 hlt' hl2' hfr hfr2 hx hy
                obtain ⟨rfl, j, hkj, hj, rfl, hje⟩ := hrel
                by_cases hlj : j < s.size
                · have hlj' : (j : Int) < (s.size : Int) := by omega
                  obtain ⟨f, hf⟩ : ∃ f, Hid (f = PlainAid.bt s j) := ⟨_, rfl⟩
                  have hbt : ∀ h : j < s.size, ((s[j]'h).toNat : Int) = f := fun h => by rw [hf.out]; exact PlainAid.get_bt s j h
                  have hu := Lib.hid (hbt hlj)
                  have hfr := Lib.hid (from_at s j hlj)
                  by_cases f10 : f = 10
                  · have hq : (f == 10) = true := int_t f10
                    have hq' : (f != 10) = false := by simp [f10]
                    have hn : Hid (j = E) := by
                      rw [Hid, ← hje.out, hfr.out]; simp only [spanN]; rw [hu.out, f10, if_neg (by decide)]; rfl
                    clear f10
                    go_wp2_with fail
                    go_roundw
                    case rel => exact ⟨by trivial, j, hj, rfl, by rw [Hid, hn.out]; exact hER.out⟩
                    case measure => have := hEk.out; have := hn.out; simp [intOf]; omega
                  · have hq : (f == 10) = false := int_f f10
                    have hq' : (f != 10) = true := by simp [f10]
                    have hn : Hid (j + 1 + spanN feedB (bytesFrom s (j + 1)) = E) := by
                      rw [Hid, ← hje.out, hfr.out]; simp only [spanN]; rw [hu.out, if_pos (by unfold feedB; simpa using f10)]; omega
                    clear f10
                    go_wp2_with fail
                    go_roundw
                    case rel => exact ⟨by trivial, j + 1, by omega, by omega, by go_num, hn⟩
                    case measure => simp [intOf]; omega
                · have hlj' : ¬ (j : Int) < (s.size : Int) := by omega
                  have hn : Hid (j = E) := by
                    rw [Hid, ← hje.out, from_end s j (by omega)]; rfl
                  go_wp2_with fail
                  go_roundw
                  case rel => exact ⟨by trivial, j, hj, rfl, by rw [Hid, hn.out]; exact hER.out⟩
                  case measure => have := hEk.out; have := hn.out; simp [intOf]; omega
            · have hq2 : (d == 47) = false := int_f d47
              have hq2' : (d != 47) = true := by simp [d47]
              have hpre : Hid (Lib.hasPrefix (bytesFrom s k) slashes = false) := by
                have hne : ¬ s[k + 1] = 47 := fun h => d47 (by rw [← hu2.out, h]; rfl)
                rw [Hid, hfr.out, hfr2.out, prefix_two, decide_eq_false hne, Bool.and_false]
              have hn : Hid (k = R) := by
                rw [Hid, ← hpa.out, pass_none hfr.out hpre.out (by rw [hu.out]; exact HBF.out)]; rfl
              clear h47
              go_wp2_with (go_at_call 61; refine (HB.out _).mono ?_; rintro e w' ⟨rfl, rfl⟩)
              go_ret
              rw [hn.out]
              exact ⟨rfl, rfl⟩
          · have hl2' : ¬ (k : Int) + 1 < (s.size : Int) := by omega
            have hpre : Hid (Lib.hasPrefix (bytesFrom s k) slashes = false) := by
              rw [Hid, hfr.out, from_end s (k + 1) (by omega), prefix_one]
            have hn : Hid (k = R) := by
              rw [Hid, ← hpa.out, pass_none hfr.out hpre.out (by rw [hu.out]; exact HBF.out)]; rfl
            clear h47
            go_wp2_with (go_at_call 61; refine (HB.out _).mono ?_; rintro e w' ⟨rfl, rfl⟩)
            go_ret
            rw [hn.out]
            exact ⟨rfl, rfl⟩
        · have hq : (c == 47) = false := int_f h47
          have hq' : (c != 47) = true := by simp [h47]
          have hpre : Hid (Lib.hasPrefix (bytesFrom s k) slashes = false) := by
            rw [Hid, hfr.out, prefix_no (fun h => h47 (by rw [← hu.out, h]; rfl))]
          have hn : Hid (k = R) := by
            rw [Hid, ← hpa.out, pass_none hfr.out hpre.out (by rw [hu.out]; exact HBF.out)]; rfl
          clear h47
          go_wp2_with (go_at_call 61; refine (HB.out _).mono ?_; rintro e w' ⟨rfl, rfl⟩)
          go_ret
          rw [hn.out]
          exact ⟨rfl, rfl⟩
    · have hlt' : ¬ (k : Int) < (s.size : Int) := by omega
      have hn : Hid (k = R) := by
        rw [Hid, ← hpa.out, from_end s k (by omega)]; rfl
      go_wp2_with fail
      go_ret
      rw [hn.out]
      exact ⟨rfl, rfl⟩
end Go.Proofs.YteedpojchapjgaaDoor

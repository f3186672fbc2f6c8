/- The proof, part 40: texts that belong together, in one. -/
import Derived.Test.YtfogkobgjojpiaaGreatDoorQBM
set_option maxRecDepth 100000
set_option maxHeartbeats 20000000
namespace Go.Proofs.YtfogkobgjojpiaaGreatDoor
open Go.RowKit
set_option linter.unusedVariables false
structure PI (w0 : World) (vS vL : Value) (p : Pg) (W : World) : Prop where
 rb : Own W w0.heap.size 25 zPg
 pb : Own W (w0.heap.size + 1) 25 #[vS, vL, .slice none 0 0]
 rS : W.ownsRow w0.heap.size 66 3 vS p.shared.length (dcsL p.shared)
 rL : W.ownsRow w0.heap.size 66 3 vL p.locks.length (dcsL p.locks)
 ne : vS.ownBlock = none ∨ vS.ownBlock ≠ vL.ownBlock
 th : p.threads = []
section
variable {c : Par} {w0 W W' : World} {vS vL : Value} {p : Pg}
theorem PI.fr (h : PI w0 vS vL p W) (hf : Fr c W W') (hX : c.X < w0.heap.size) : PI w0 vS vL p W' :=
 ⟨h.rb.fr hf (by omega), h.pb.fr hf (by omega), row_fr h.rS hf hX, row_fr h.rL hf hX, h.ne, h.th⟩
theorem PI.below (h : PI w0 vS vL p W) (hb : Below W.heap.size W W') : PI w0 vS vL p W' :=
 ⟨h.rb.below hb, h.pb.below hb, row_below h.rS hb, row_below h.rL hb, h.ne, h.th⟩
theorem PI.drew (h : PI w0 vS vL p W) : PI w0 vS vL p W.drew := ⟨h.rb, h.pb, h.rS, h.rL, h.ne, h.th⟩
theorem PI.endS (h : PI w0 vS vL p W) {g cap : Nat} {d : List Dc} (hg : W.grownBy W' vS.ownBlock) (hown : W'.ownsRow w0.heap.size 66 3 (.slice (some ⟨g, 0, none⟩) (p.shared.length + d.length) cap) (p.shared.length + d.length) (dcsL p.shared ++ dcsL d)) (hl : vS.ownBlock = some g ∨ g = W.heap.size) :
 PI w0 (.slice (some ⟨g, 0, none⟩) (p.shared.length + d.length) cap) vL { p with shared := p.shared ++ d } (W'.setRow (w0.heap.size + 1) #[.slice (some ⟨g, 0, none⟩) (p.shared.length + d.length) cap, vL, .slice none 0 0]) := by
 have h2 := own_grown h.rb hg (row_apart h.rS h.rb rfl)
 have h3 := own_grown h.pb hg (row_apart h.rS h.pb rfl)
 have h4 : W'.ownsRow w0.heap.size 66 3 vL p.locks.length (dcsL p.locks) := h.rL.kept hg (by
  rcases h.ne with e | e
  · cases hv : vL.ownBlock with
    | none => exact .inl rfl
    | some b => exact .inr (by rw [e]; simp)
  · exact .inr (fun e' => e e'.symm))
 have ha := row_apart hown h3 rfl
 refine ⟨h2.other _ (by omega), h3.row _, ?_, row_row h4 _ (row_apart h4 h3 rfl), ?_, h.th⟩
 · have := row_row hown #[.slice (some ⟨g, 0, none⟩) (p.shared.length + d.length) cap, vL, .slice none 0 0] ha
   simp only [List.length_append, dcsL, List.flatMap_append] at this ⊢
   exact this
 · right
   intro e
   rcases hl with hl | hl
   · rcases h.ne with e' | e'
     · rw [e'] at hl; cases hl
     · exact e' (by rw [hl, ← e]; rfl)
   · have := (h.rL.lt g (by rw [← e]; rfl)).2
     omega
theorem PI.endL (h : PI w0 vS vL p W) {g cap : Nat} {d : List Dc} (hg : W.grownBy W' vL.ownBlock) (hown : W'.ownsRow w0.heap.size 66 3 (.slice (some ⟨g, 0, none⟩) (p.locks.length + d.length) cap) (p.locks.length + d.length) (dcsL p.locks ++ dcsL d)) (hl : vL.ownBlock = some g ∨ g = W.heap.size) :
 PI w0 vS (.slice (some ⟨g, 0, none⟩) (p.locks.length + d.length) cap) { p with locks := p.locks ++ d } (W'.setRow (w0.heap.size + 1) #[vS, .slice (some ⟨g, 0, none⟩) (p.locks.length + d.length) cap, .slice none 0 0]) := by
 have h2 := own_grown h.rb hg (row_apart h.rL h.rb rfl)
 have h3 := own_grown h.pb hg (row_apart h.rL h.pb rfl)
 have h4 : W'.ownsRow w0.heap.size 66 3 vS p.shared.length (dcsL p.shared) := h.rS.kept hg h.ne
 have ha := row_apart hown h3 rfl
 refine ⟨h2.other _ (by omega), h3.row _, row_row h4 _ (row_apart h4 h3 rfl), ?_, ?_, h.th⟩
 · have := row_row hown #[vS, .slice (some ⟨g, 0, none⟩) (p.locks.length + d.length) cap, .slice none 0 0] ha
   simp only [List.length_append, dcsL, List.flatMap_append] at this ⊢
   exact this
 · cases hv : vS.ownBlock with
   | none => exact .inl rfl
   | some b =>
     right
     intro e
     have e : b = g := by simpa [Value.ownBlock] using e
     subst e
     rcases hl with hl | hl
     · rcases h.ne with e' | e'
       · rw [e'] at hv; cases hv
       · exact e' (by rw [hl, hv])
     · have := (h.rS.lt b hv).2
       omega
end
def PmI (c : Par) (w : World) (M : Nat) (Y : Pg × Sr) (m : Nat) (W : World) : Prop :=
 ∃ (σ : Sr) (p : Pg) (vS vL : Value), As c w W σ ∧ PI w vS vL p W ∧ declsM c.L M m p σ = Y ∧ (σ.ok = true → σ.ts.length < m ∧ 3 * σ.ts.length + 2 ≤ M) ∧ (σ.ok = true → p.shared.length + σ.ts.length ≤ 65536 ∧ p.locks.length + σ.ts.length ≤ 65536)
theorem dcs_of {W : World} {n : Nat} {l : List Dc} {o : Option Addr} {k : Nat} (hr : W.ownsRow n 66 3 (.slice o l.length k) l.length (dcsL l)) : dcsAt (fun b => n ≤ b) W l o := by
 obtain ⟨oa, cap, e, hoa⟩ := row_shape hr
 cases e
 cases l with
 | nil => exact .inl rfl
 | cons x xx =>
   obtain ⟨g, rfl, hg⟩ := hoa (by simp)
   exact .inr ⟨g, 0, rfl, hg, dcsIn_of (row_cells hr rfl)⟩
theorem r_program {c : Par} {w : World} {σ : Sr} {n M : Nat} (R : Rs c w σ) (hn : σ.ok = true → σ.ts.length < n ∧ 3 * σ.ts.length + 2 ≤ M) :
 Calls Tryz.prog 28 #[c.ptr] w (RsPost c w (declsM c.L M n ⟨[], [], []⟩ σ) (pgR w.heap.size)) := by
 have hsm : σ.ts.length ≤ 65536 := by obtain ⟨k, R, h⟩ := R; rw [h, Par.at_len]; have := R.s.small.1; omega
 have HTS : Hid (∀ W σ, Rs c W σ → Calls Tryz.prog 69 #[c.ptr, .string ⟨#[115, 104, 97, 114, 101, 100]⟩] W fun e w' => e = .returned (.bool (σ.has c.L [115, 104, 97, 114, 101, 100])) ∧ Fr c W w' ∧ Rs c w' (σ.take c.L [115, 104, 97, 114, 101, 100])) := fun W σ R => r_take R ⟨#[115, 104, 97, 114, 101, 100]⟩
 have HTL : Hid (∀ W σ, Rs c W σ → Calls Tryz.prog 69 #[c.ptr, .string ⟨#[108, 111, 99, 107]⟩] W fun e w' => e = .returned (.bool (σ.has c.L [108, 111, 99, 107])) ∧ Fr c W w' ∧ Rs c w' (σ.take c.L [108, 111, 99, 107])) := fun W σ R => r_take R ⟨#[108, 111, 99, 107]⟩
 have HNS : Hid (∀ W σ m, Rs c W σ → (σ.ok = true → σ.ts.length < m) → Calls Tryz.prog 71 #[c.ptr] W (RsPost c W (listM c.L (nameM c.L) m [] σ) (dcsW W.heap.size))) := fun W σ m R h => r_names R h
 have HSH : Hid (∀ W σ m, Rs c W σ → (σ.ok = true → σ.ts.length < m) → Calls Tryz.prog 70 #[c.ptr] W (RsPost c W (listM c.L (firstM c.L) m [] σ) (dcsW W.heap.size))) := fun W σ m R h => r_shared R h
 have HTH : Hid (∀ W σ m (a1 a2 : Option Addr) (n1 n2 c1 c2 : Nat), Rs c W σ → (σ.ok = true → 3 * σ.ts.length + 2 ≤ m) → Calls Tryz.prog 72 #[c.ptr, .agg #[.slice a1 n1 c1, .slice a2 n2 c2, .slice none 0 0]] W (RsPost c W (threadsM c.L m [] σ) (ptR W.heap.size (.slice a1 n1 c1) (.slice a2 n2 c2)))) := fun W σ m a1 a2 n1 n2 c1 c2 R h => r_threads R h
 have HOO : Hid (∀ W σ, Rs c W σ → Calls Tryz.prog 29 #[c.ptr] W fun e w' => e = .returned (.bool σ.ok) ∧ Below W.heap.size W w') := fun W σ R => r_okS R
 have HS := Lib.hid R.s
 have hX := Lib.hid R.lt
 obtain ⟨Y, hY⟩ : ∃ Y, Y = declsM c.L M n ⟨[], [], []⟩ σ := ⟨_, rfl⟩
 rw [← hY]
 have B0 : Hid (PmI c w M Y n ((w.alloc (.cells zPg 25)).alloc (.cells zPg 25))) := by
  have o1 := (Own.new w 25 zPg).alloc (.cells zPg 25)
  have o2 := Own.new (w.alloc (.cells zPg 25)) 25 zPg
  rw [World.size_alloc] at o2
  exact ⟨σ, ⟨[], [], []⟩, .slice none 0 0, .slice none 0 0, (R.as.alloc _).alloc _, ⟨o1, o2, World.ownsRow_nil _ _ _ _, World.ownsRow_nil _ _ _ _, .inl rfl, rfl⟩, hY.symm, hn, fun _ => by simpa using hsm⟩
 clear hn R hY hsm
 unfold Par.ptr zPg at *
 go_enter Tryz.func28, Tryz.ntmps28
 go_wp2_with fail
 go_loopg [] n (fun m W => PmI c w M Y m W)
 case atStart => exact B0.out
 case round =>
  obtain ⟨σj, p, vS, vL, A1, hp, hL, hfu, hle⟩ := hrel
  have A := Lib.hid A1
  have PP := Lib.hid hp
  have HL := Lib.hid hL
  have HFU := Lib.hid (And.intro hfu hle)
  clear A1 hp hL hfu hle
  have HO := Lib.hid (HOO.out _ _ (A.out.rs HS.out))
  by_cases hok : σj.ok = true
  · obtain ⟨m, rfl⟩ : ∃ m, gk = m + 1 := ⟨gk - 1, by have := (HFU.out.1 hok).1; omega⟩
    have HOK := Lib.hid hok
    rw [hok] at HO
    have HT1 := Lib.hid (fun W => HTS.out W σj)
    by_cases h1 : σj.has c.L [115, 104, 97, 114, 101, 100] = true
    · have HC := Lib.hid h1
      rw [h1] at HT1
      clear h1 hok
      go_wp2_with fail
      go_at_call 29
      refine (HO.out).mono ?_
      rintro e w1 ⟨rfl, hb⟩
      have A := Lib.hid (A.out.below hb)
      have PP := Lib.hid (PP.out.below hb)
      clear hb HO
      go_wp2_with fail
      go_at_call 69
      refine (HT1.out _ (A.out.rs HS.out)).mono ?_
      rintro e w9 ⟨rfl, hf, hr⟩
      have A := Lib.hid (A.out.call hf (show Rs c w9 σj.step from by rw [show σj.take c.L [115, 104, 97, 114, 101, 100] = σj.step by unfold Sr.take; rw [if_pos HC.out]] at hr; exact hr))
      have PP := Lib.hid (PP.out.fr hf hX.out)
      clear hf hr HT1
      go_wp2_with fail
      have HLS : Hid (σj.step.ts.length + 1 = σj.ts.length) := (has_ne HC.out).2
      have HC4 : Hid (∀ W, Rs c W σj.step → Calls Tryz.prog 70 #[.pointer (some ⟨c.X, 0, none⟩)] W (RsPost c W (listM c.L (firstM c.L) m [] σj.step) (dcsW W.heap.size))) := fun W R => HSH.out W σj.step m R (fun _ => by have := HFU.out.1 HOK.out; have := HLS.out; omega)
      have hD : Hid ((listM c.L (firstM c.L) m [] σj.step).1 ≠ [] ∧ p.shared.length + (listM c.L (firstM c.L) m [] σj.step).1.length ≤ 65600) := by
       obtain ⟨q1, q2, q3⟩ := listM_len (L := c.L) first_one (n := m) (σ := σj.step)
       have h1 := HFU.out.1 HOK.out
       have h2 := HFU.out.2 HOK.out
       have h3 := HLS.out
       have h4 := q2 HOK.out
       exact ⟨q3 HOK.out (by omega), by omega⟩
      have HN5 : Hid ((listM c.L (firstM c.L) m [] σj.step).2.ok = true → (listM c.L (firstM c.L) m [] σj.step).1.length + (listM c.L (firstM c.L) m [] σj.step).2.ts.length + 1 ≤ σj.step.ts.length) := fun h => ((listM_len (L := c.L) first_one (n := m) (σ := σj.step)).1 h).2
      have HNX2 : Hid (declsM c.L M m { p with shared := p.shared ++ (listM c.L (firstM c.L) m [] σj.step).1 } (listM c.L (firstM c.L) m [] σj.step).2 = Y) := by
       rw [Hid, ← HL.out]
       conv => rhs; simp only [declsM]
       rw [if_pos HOK.out, if_pos HC.out]
      obtain ⟨Z4, hZ4⟩ : ∃ Z4, Z4 = listM c.L (firstM c.L) m [] σj.step := ⟨_, rfl⟩
      rw [← hZ4] at HC4 hD HN5 HNX2
      clear hZ4
      obtain ⟨d, σ5⟩ := Z4
      have hD : Hid (d ≠ [] ∧ p.shared.length + d.length ≤ 65600) := hD
      have HN5 : Hid (σ5.ok = true → d.length + σ5.ts.length + 1 ≤ σj.step.ts.length) := HN5
      refine wp_region_held (S := fun _ => True) (by kernel_rfl) ?_
      have A := Lib.hid A.out.drew
      have PP := Lib.hid PP.out.drew
      change wpAnyH _ _ _ _ _ _ _ _ w9.drew
      obtain ⟨W0, hW0⟩ : ∃ W0, W0 = w9.drew := ⟨_, rfl⟩
      rw [← hW0] at A PP ⊢
      clear hW0
      refine dr_take 0 (.pointer (some ⟨w.heap.size + 1, 0, none⟩)) rfl rfl (by kernel_rfl) (by kernel_rfl) (by kernel_rfl) (fun _ _ _ h => h) (fun _ _ => by unfold execOp; go_simp) trivial ?_
      change wpAnyH _ _ _ _ _ _ _ { tmps := #[.pointer (some ⟨c.X, 0, none⟩), undef, .pointer (some ⟨w.heap.size, 0, none⟩), .pointer (some ⟨w.heap.size + 1, 0, none⟩), .agg #[.slice none 0 0, .slice none 0 0, .slice none 0 0], .pointer (some ⟨c.X, 0, none⟩), .bool true, u7, u8, u9, .bool true, .pointer (some ⟨c.X, 0, none⟩), .bool true, .pointer (some ⟨w.heap.size + 1, 0, none⟩), u14, u15, u16, u17, u18, u19, u20, u21, u22, u23, u24, u25, u26, u27, undef], defers := [] } _
      refine dr_take 2 (.pointer (some ⟨c.X, 0, none⟩)) rfl rfl (by kernel_rfl) (by kernel_rfl) (by kernel_rfl) (fun _ _ _ h => h) (fun _ _ => rfl) trivial ?_
      change wpAnyH _ _ _ _ _ _ _ { tmps := #[.pointer (some ⟨c.X, 0, none⟩), undef, .pointer (some ⟨w.heap.size, 0, none⟩), .pointer (some ⟨w.heap.size + 1, 0, none⟩), .agg #[.slice none 0 0, .slice none 0 0, .slice none 0 0], .pointer (some ⟨c.X, 0, none⟩), .bool true, u7, u8, u9, .bool true, .pointer (some ⟨c.X, 0, none⟩), .bool true, .pointer (some ⟨w.heap.size + 1, 0, none⟩), u14, .pointer (some ⟨c.X, 0, none⟩), u16, u17, u18, u19, u20, u21, u22, u23, u24, u25, u26, u27, undef], defers := [] } _
      refine dr_two 1 3 rfl rfl rfl rfl (by kernel_rfl) ?_ ?_
      · refine wp_ld_dcs rfl rfl (by rw [cell_of_row _ _ 0 _ _ _ PP.out.pb]; rfl) ⟨trivial, ?_⟩
        change wpAnyH _ _ _ _ _ _ _ { tmps := #[.pointer (some ⟨c.X, 0, none⟩), undef, .pointer (some ⟨w.heap.size, 0, none⟩), .pointer (some ⟨w.heap.size + 1, 0, none⟩), .agg #[.slice none 0 0, .slice none 0 0, .slice none 0 0], .pointer (some ⟨c.X, 0, none⟩), .bool true, u7, u8, u9, .bool true, .pointer (some ⟨c.X, 0, none⟩), .bool true, .pointer (some ⟨w.heap.size + 1, 0, none⟩), vS, .pointer (some ⟨c.X, 0, none⟩), u16, u17, u18, u19, u20, u21, u22, u23, u24, u25, u26, u27, undef], defers := [] } _
        refine dr_one 3 rfl rfl (by kernel_rfl) ?_
        refine wp_call (vs := #[.pointer (some ⟨c.X, 0, none⟩)]) rfl rfl (enters_of Tryz.func70 (by kernel_rfl) rfl) (by simp [Act.eval]) (HC4.out _ (A.out.rs HS.out)) ?_
        rintro e w4 ⟨hf4, v1, rfl, hrow1, hR1⟩
        have hrow1 : w4.ownsRow W0.heap.size 66 3 v1 d.length (dcsL d) := hrow1
        have A := Lib.hid (A.out.call hf4 hR1)
        have PP := Lib.hid (PP.out.fr hf4 hX.out)
        obtain ⟨g1, cap1, rfl, hg1, hlt1⟩ := hrow1.form (List.length_pos_iff.2 hD.out.1)
        refine ⟨trivial, ?_⟩
        change wpAnyH _ _ _ _ _ _ _ { tmps := #[.pointer (some ⟨c.X, 0, none⟩), undef, .pointer (some ⟨w.heap.size, 0, none⟩), .pointer (some ⟨w.heap.size + 1, 0, none⟩), .agg #[.slice none 0 0, .slice none 0 0, .slice none 0 0], .pointer (some ⟨c.X, 0, none⟩), .bool true, u7, u8, u9, .bool true, .pointer (some ⟨c.X, 0, none⟩), .bool true, .pointer (some ⟨w.heap.size + 1, 0, none⟩), vS, .pointer (some ⟨c.X, 0, none⟩), .slice (some ⟨g1, 0, none⟩) d.length cap1, u17, u18, u19, u20, u21, u22, u23, u24, u25, u26, u27, undef], defers := [] } _
        refine dr_one 4 rfl rfl (by kernel_rfl) ?_
        obtain ⟨i0, hi, hi0, hi1, hi2⟩ := info_parts infoDc
        refine wp_append_lies w4 _ _ 22 rfl w.heap.size 66 i0 _ 3 32 Tryz.underlying22 hi hi0 hi1 hi2 rfl (by decide) vS p.shared.length (dcsL p.shared) rfl PP.out.rS ⟨g1, 0, none⟩ d.length cap1 (dcsL d) rfl (dcsL_len d) (row_news hrow1) (dcsL_cells d) (List.length_pos_iff.2 hD.out.1) (by simp only [maxLen]; have := hD.out.2; omega) (by have := hD.out.2; omega) (by have := PP.out.pb.lt; omega) _ rfl ?_
        intro g2 cap2 w5 hown2 hgrow2 hlies2 hlt2
        refine ⟨trivial, ?_⟩
        change wpAnyH _ _ _ _ _ _ _ { tmps := #[.pointer (some ⟨c.X, 0, none⟩), undef, .pointer (some ⟨w.heap.size, 0, none⟩), .pointer (some ⟨w.heap.size + 1, 0, none⟩), .agg #[.slice none 0 0, .slice none 0 0, .slice none 0 0], .pointer (some ⟨c.X, 0, none⟩), .bool true, u7, u8, u9, .bool true, .pointer (some ⟨c.X, 0, none⟩), .bool true, .pointer (some ⟨w.heap.size + 1, 0, none⟩), vS, .pointer (some ⟨c.X, 0, none⟩), .slice (some ⟨g1, 0, none⟩) d.length cap1, .slice (some ⟨g2, 0, none⟩) (p.shared.length + d.length) cap2, u18, u19, u20, u21, u22, u23, u24, u25, u26, u27, undef], defers := [] } _
        refine dr_take 5 (.pointer (some ⟨w.heap.size + 1, 0, none⟩)) rfl rfl (by kernel_rfl) (by kernel_rfl) (by kernel_rfl) (fun _ _ _ h => h) (fun _ _ => by unfold execOp; go_simp) trivial ?_
        change wpAnyH _ _ _ _ _ _ _ { tmps := #[.pointer (some ⟨c.X, 0, none⟩), undef, .pointer (some ⟨w.heap.size, 0, none⟩), .pointer (some ⟨w.heap.size + 1, 0, none⟩), .agg #[.slice none 0 0, .slice none 0 0, .slice none 0 0], .pointer (some ⟨c.X, 0, none⟩), .bool true, u7, u8, u9, .bool true, .pointer (some ⟨c.X, 0, none⟩), .bool true, .pointer (some ⟨w.heap.size + 1, 0, none⟩), vS, .pointer (some ⟨c.X, 0, none⟩), .slice (some ⟨g1, 0, none⟩) d.length cap1, .slice (some ⟨g2, 0, none⟩) (p.shared.length + d.length) cap2, .pointer (some ⟨w.heap.size + 1, 0, none⟩), u19, u20, u21, u22, u23, u24, u25, u26, u27, undef], defers := [] } _
        refine dr_one 6 rfl rfl (by kernel_rfl) ?_
        have B3 := own_grown PP.out.pb hgrow2 (row_apart PP.out.rS PP.out.pb rfl)
        refine wp_st_dcs rfl rfl rfl (u := vS) (by rw [cell_of_row w5 _ 0 _ _ _ B3]; rfl) (own_frozen B3 0) ⟨trivial, ?_⟩
        rw [setCell_row B3 0 _]
        have A := Lib.hid ((A.out.grown hgrow2 (fun r hr => by have := (PP.out.rS.lt r hr).1; have := hX.out; omega)).setRow (g := w.heap.size + 1) (by omega) (by have := hX.out; omega) #[.slice (some ⟨g2, 0, none⟩) (p.shared.length + d.length) cap2, vL, .slice none 0 0])
        have PP := Lib.hid (PP.out.endS hgrow2 hown2 hlies2)
        refine wpAnyH_done (by kernel_rfl) ?_ _
        clear hrow1 hown2 hgrow2 hlies2 B3 hi hi0 hi1 hi2
        go_wp2_with fail
        go_roundg m
        case measure => omega
        case rel =>
         refine ⟨σ5, { p with shared := p.shared ++ d }, _, _, A.out, PP.out, HNX2.out, fun h => by have := (HN5.out h); have := (HFU.out.1 HOK.out); have := HLS.out; omega, fun h => by have := (HN5.out h); have := (HFU.out.2 HOK.out); have := HLS.out; simp only [List.length_append]; omega⟩
      · refine wp_call (vs := #[.pointer (some ⟨c.X, 0, none⟩)]) rfl rfl (enters_of Tryz.func70 (by kernel_rfl) rfl) (by simp [Act.eval]) (HC4.out _ (A.out.rs HS.out)) ?_
        rintro e w4 ⟨hf4, v1, rfl, hrow1, hR1⟩
        have hrow1 : w4.ownsRow W0.heap.size 66 3 v1 d.length (dcsL d) := hrow1
        have A := Lib.hid (A.out.call hf4 hR1)
        have PP := Lib.hid (PP.out.fr hf4 hX.out)
        obtain ⟨g1, cap1, rfl, hg1, hlt1⟩ := hrow1.form (List.length_pos_iff.2 hD.out.1)
        refine ⟨trivial, ?_⟩
        change wpAnyH _ _ _ _ _ _ _ { tmps := #[.pointer (some ⟨c.X, 0, none⟩), undef, .pointer (some ⟨w.heap.size, 0, none⟩), .pointer (some ⟨w.heap.size + 1, 0, none⟩), .agg #[.slice none 0 0, .slice none 0 0, .slice none 0 0], .pointer (some ⟨c.X, 0, none⟩), .bool true, u7, u8, u9, .bool true, .pointer (some ⟨c.X, 0, none⟩), .bool true, .pointer (some ⟨w.heap.size + 1, 0, none⟩), u14, .pointer (some ⟨c.X, 0, none⟩), .slice (some ⟨g1, 0, none⟩) d.length cap1, u17, u18, u19, u20, u21, u22, u23, u24, u25, u26, u27, undef], defers := [] } _
        refine dr_one 1 rfl rfl (by kernel_rfl) ?_
        refine wp_ld_dcs rfl rfl (by rw [cell_of_row _ _ 0 _ _ _ PP.out.pb]; rfl) ⟨trivial, ?_⟩
        change wpAnyH _ _ _ _ _ _ _ { tmps := #[.pointer (some ⟨c.X, 0, none⟩), undef, .pointer (some ⟨w.heap.size, 0, none⟩), .pointer (some ⟨w.heap.size + 1, 0, none⟩), .agg #[.slice none 0 0, .slice none 0 0, .slice none 0 0], .pointer (some ⟨c.X, 0, none⟩), .bool true, u7, u8, u9, .bool true, .pointer (some ⟨c.X, 0, none⟩), .bool true, .pointer (some ⟨w.heap.size + 1, 0, none⟩), vS, .pointer (some ⟨c.X, 0, none⟩), .slice (some ⟨g1, 0, none⟩) d.length cap1, u17, u18, u19, u20, u21, u22, u23, u24, u25, u26, u27, undef], defers := [] } _
        refine dr_one 4 rfl rfl (by kernel_rfl) ?_
        obtain ⟨i0, hi, hi0, hi1, hi2⟩ := info_parts infoDc
        refine wp_append_lies w4 _ _ 22 rfl w.heap.size 66 i0 _ 3 32 Tryz.underlying22 hi hi0 hi1 hi2 rfl (by decide) vS p.shared.length (dcsL p.shared) rfl PP.out.rS ⟨g1, 0, none⟩ d.length cap1 (dcsL d) rfl (dcsL_len d) (row_news hrow1) (dcsL_cells d) (List.length_pos_iff.2 hD.out.1) (by simp only [maxLen]; have := hD.out.2; omega) (by have := hD.out.2; omega) (by have := PP.out.pb.lt; omega) _ rfl ?_
        intro g2 cap2 w5 hown2 hgrow2 hlies2 hlt2
        refine ⟨trivial, ?_⟩
        change wpAnyH _ _ _ _ _ _ _ { tmps := #[.pointer (some ⟨c.X, 0, none⟩), undef, .pointer (some ⟨w.heap.size, 0, none⟩), .pointer (some ⟨w.heap.size + 1, 0, none⟩), .agg #[.slice none 0 0, .slice none 0 0, .slice none 0 0], .pointer (some ⟨c.X, 0, none⟩), .bool true, u7, u8, u9, .bool true, .pointer (some ⟨c.X, 0, none⟩), .bool true, .pointer (some ⟨w.heap.size + 1, 0, none⟩), vS, .pointer (some ⟨c.X, 0, none⟩), .slice (some ⟨g1, 0, none⟩) d.length cap1, .slice (some ⟨g2, 0, none⟩) (p.shared.length + d.length) cap2, u18, u19, u20, u21, u22, u23, u24, u25, u26, u27, undef], defers := [] } _
        refine dr_take 5 (.pointer (some ⟨w.heap.size + 1, 0, none⟩)) rfl rfl (by kernel_rfl) (by kernel_rfl) (by kernel_rfl) (fun _ _ _ h => h) (fun _ _ => by unfold execOp; go_simp) trivial ?_
        change wpAnyH _ _ _ _ _ _ _ { tmps := #[.pointer (some ⟨c.X, 0, none⟩), undef, .pointer (some ⟨w.heap.size, 0, none⟩), .pointer (some ⟨w.heap.size + 1, 0, none⟩), .agg #[.slice none 0 0, .slice none 0 0, .slice none 0 0], .pointer (some ⟨c.X, 0, none⟩), .bool true, u7, u8, u9, .bool true, .pointer (some ⟨c.X, 0, none⟩), .bool true, .pointer (some ⟨w.heap.size + 1, 0, none⟩), vS, .pointer (some ⟨c.X, 0, none⟩), .slice (some ⟨g1, 0, none⟩) d.length cap1, .slice (some ⟨g2, 0, none⟩) (p.shared.length + d.length) cap2, .pointer (some ⟨w.heap.size + 1, 0, none⟩), u19, u20, u21, u22, u23, u24, u25, u26, u27, undef], defers := [] } _
        refine dr_one 6 rfl rfl (by kernel_rfl) ?_
        have B3 := own_grown PP.out.pb hgrow2 (row_apart PP.out.rS PP.out.pb rfl)
        refine wp_st_dcs rfl rfl rfl (u := vS) (by rw [cell_of_row w5 _ 0 _ _ _ B3]; rfl) (own_frozen B3 0) ⟨trivial, ?_⟩
        rw [setCell_row B3 0 _]
        have A := Lib.hid ((A.out.grown hgrow2 (fun r hr => by have := (PP.out.rS.lt r hr).1; have := hX.out; omega)).setRow (g := w.heap.size + 1) (by omega) (by have := hX.out; omega) #[.slice (some ⟨g2, 0, none⟩) (p.shared.length + d.length) cap2, vL, .slice none 0 0])
        have PP := Lib.hid (PP.out.endS hgrow2 hown2 hlies2)
        refine wpAnyH_done (by kernel_rfl) ?_ _
        clear hrow1 hown2 hgrow2 hlies2 B3 hi hi0 hi1 hi2
        go_wp2_with fail
        go_roundg m
        case measure => omega
        case rel =>
         refine ⟨σ5, { p with shared := p.shared ++ d }, _, _, A.out, PP.out, HNX2.out, fun h => by have := (HN5.out h); have := (HFU.out.1 HOK.out); have := HLS.out; omega, fun h => by have := (HN5.out h); have := (HFU.out.2 HOK.out); have := HLS.out; simp only [List.length_append]; omega⟩
    · have H1 : Hid (σj.has c.L [115, 104, 97, 114, 101, 100] = false) := by simpa [Hid] using h1
      have HT2 := Lib.hid (fun W => HTL.out W σj)
      rw [H1.out] at HT1
      by_cases h2 : σj.has c.L [108, 111, 99, 107] = true
      · have HC := Lib.hid h2
        rw [h2] at HT2
        clear h1 h2 hok
        go_wp2_with fail
        go_at_call 29
        refine (HO.out).mono ?_
        rintro e w1 ⟨rfl, hb⟩
        have A := Lib.hid (A.out.below hb)
        have PP := Lib.hid (PP.out.below hb)
        clear hb HO
        go_wp2_with fail
        go_at_call 69
        refine (HT1.out _ (A.out.rs HS.out)).mono ?_
        rintro e w8 ⟨rfl, hf, hr⟩
        have A := Lib.hid (A.out.call hf (show Rs c w8 σj from by rw [show σj.take c.L [115, 104, 97, 114, 101, 100] = σj by unfold Sr.take; rw [if_neg (by rw [H1.out]; decide)]] at hr; exact hr))
        have PP := Lib.hid (PP.out.fr hf hX.out)
        clear hf hr HT1
        go_wp2_with fail
        go_at_call 69
        refine (HT2.out _ (A.out.rs HS.out)).mono ?_
        rintro e w9 ⟨rfl, hf, hr⟩
        have A := Lib.hid (A.out.call hf (show Rs c w9 σj.step from by rw [show σj.take c.L [108, 111, 99, 107] = σj.step by unfold Sr.take; rw [if_pos HC.out]] at hr; exact hr))
        have PP := Lib.hid (PP.out.fr hf hX.out)
        clear hf hr HT2
        go_wp2_with fail
        have HLS : Hid (σj.step.ts.length + 1 = σj.ts.length) := (has_ne HC.out).2
        have HC4 : Hid (∀ W, Rs c W σj.step → Calls Tryz.prog 71 #[.pointer (some ⟨c.X, 0, none⟩)] W (RsPost c W (listM c.L (nameM c.L) m [] σj.step) (dcsW W.heap.size))) := fun W R => HNS.out W σj.step m R (fun _ => by have := HFU.out.1 HOK.out; have := HLS.out; omega)
        have hD : Hid ((listM c.L (nameM c.L) m [] σj.step).1 ≠ [] ∧ p.locks.length + (listM c.L (nameM c.L) m [] σj.step).1.length ≤ 65600) := by
         obtain ⟨q1, q2, q3⟩ := listM_len (L := c.L) name_one (n := m) (σ := σj.step)
         have h1 := HFU.out.1 HOK.out
         have h2 := HFU.out.2 HOK.out
         have h3 := HLS.out
         have h4 := q2 HOK.out
         exact ⟨q3 HOK.out (by omega), by omega⟩
        have HN5 : Hid ((listM c.L (nameM c.L) m [] σj.step).2.ok = true → (listM c.L (nameM c.L) m [] σj.step).1.length + (listM c.L (nameM c.L) m [] σj.step).2.ts.length + 1 ≤ σj.step.ts.length) := fun h => ((listM_len (L := c.L) name_one (n := m) (σ := σj.step)).1 h).2
        have HNX2 : Hid (declsM c.L M m { p with locks := p.locks ++ (listM c.L (nameM c.L) m [] σj.step).1 } (listM c.L (nameM c.L) m [] σj.step).2 = Y) := by
         rw [Hid, ← HL.out]
         conv => rhs; simp only [declsM]
         rw [if_pos HOK.out, if_neg (by rw [H1.out]; decide), if_pos HC.out]
        obtain ⟨Z4, hZ4⟩ : ∃ Z4, Z4 = listM c.L (nameM c.L) m [] σj.step := ⟨_, rfl⟩
        rw [← hZ4] at HC4 hD HN5 HNX2
        clear hZ4
        obtain ⟨d, σ5⟩ := Z4
        have hD : Hid (d ≠ [] ∧ p.locks.length + d.length ≤ 65600) := hD
        have HN5 : Hid (σ5.ok = true → d.length + σ5.ts.length + 1 ≤ σj.step.ts.length) := HN5
        refine wp_region_held (S := fun _ => True) (by kernel_rfl) ?_
        have A := Lib.hid A.out.drew
        have PP := Lib.hid PP.out.drew
        change wpAnyH _ _ _ _ _ _ _ _ w9.drew
        obtain ⟨W0, hW0⟩ : ∃ W0, W0 = w9.drew := ⟨_, rfl⟩
        rw [← hW0] at A PP ⊢
        clear hW0
        refine dr_take 0 (.pointer (some ⟨w.heap.size + 1, 1, none⟩)) rfl rfl (by kernel_rfl) (by kernel_rfl) (by kernel_rfl) (fun _ _ _ h => h) (fun _ _ => by unfold execOp; go_simp) trivial ?_
        change wpAnyH _ _ _ _ _ _ _ { tmps := #[.pointer (some ⟨c.X, 0, none⟩), undef, .pointer (some ⟨w.heap.size, 0, none⟩), .pointer (some ⟨w.heap.size + 1, 0, none⟩), .agg #[.slice none 0 0, .slice none 0 0, .slice none 0 0], .pointer (some ⟨c.X, 0, none⟩), .bool true, u7, u8, u9, .bool false, .pointer (some ⟨c.X, 0, none⟩), .bool false, u13, u14, u15, u16, u17, u18, .bool true, .pointer (some ⟨c.X, 0, none⟩), .bool true, .pointer (some ⟨w.heap.size + 1, 1, none⟩), u23, u24, u25, u26, u27, undef], defers := [] } _
        refine dr_take 2 (.pointer (some ⟨c.X, 0, none⟩)) rfl rfl (by kernel_rfl) (by kernel_rfl) (by kernel_rfl) (fun _ _ _ h => h) (fun _ _ => rfl) trivial ?_
        change wpAnyH _ _ _ _ _ _ _ { tmps := #[.pointer (some ⟨c.X, 0, none⟩), undef, .pointer (some ⟨w.heap.size, 0, none⟩), .pointer (some ⟨w.heap.size + 1, 0, none⟩), .agg #[.slice none 0 0, .slice none 0 0, .slice none 0 0], .pointer (some ⟨c.X, 0, none⟩), .bool true, u7, u8, u9, .bool false, .pointer (some ⟨c.X, 0, none⟩), .bool false, u13, u14, u15, u16, u17, u18, .bool true, .pointer (some ⟨c.X, 0, none⟩), .bool true, .pointer (some ⟨w.heap.size + 1, 1, none⟩), u23, .pointer (some ⟨c.X, 0, none⟩), u25, u26, u27, undef], defers := [] } _
        refine dr_two 1 3 rfl rfl rfl rfl (by kernel_rfl) ?_ ?_
        · refine wp_ld_dcs rfl rfl (by rw [cell_of_row _ _ 1 _ _ _ PP.out.pb]; rfl) ⟨trivial, ?_⟩
          change wpAnyH _ _ _ _ _ _ _ { tmps := #[.pointer (some ⟨c.X, 0, none⟩), undef, .pointer (some ⟨w.heap.size, 0, none⟩), .pointer (some ⟨w.heap.size + 1, 0, none⟩), .agg #[.slice none 0 0, .slice none 0 0, .slice none 0 0], .pointer (some ⟨c.X, 0, none⟩), .bool true, u7, u8, u9, .bool false, .pointer (some ⟨c.X, 0, none⟩), .bool false, u13, u14, u15, u16, u17, u18, .bool true, .pointer (some ⟨c.X, 0, none⟩), .bool true, .pointer (some ⟨w.heap.size + 1, 1, none⟩), vL, .pointer (some ⟨c.X, 0, none⟩), u25, u26, u27, undef], defers := [] } _
          refine dr_one 3 rfl rfl (by kernel_rfl) ?_
          refine wp_call (vs := #[.pointer (some ⟨c.X, 0, none⟩)]) rfl rfl (enters_of Tryz.func71 (by kernel_rfl) rfl) (by simp [Act.eval]) (HC4.out _ (A.out.rs HS.out)) ?_
          rintro e w4 ⟨hf4, v1, rfl, hrow1, hR1⟩
          have hrow1 : w4.ownsRow W0.heap.size 66 3 v1 d.length (dcsL d) := hrow1
          have A := Lib.hid (A.out.call hf4 hR1)
          have PP := Lib.hid (PP.out.fr hf4 hX.out)
          obtain ⟨g1, cap1, rfl, hg1, hlt1⟩ := hrow1.form (List.length_pos_iff.2 hD.out.1)
          refine ⟨trivial, ?_⟩
          change wpAnyH _ _ _ _ _ _ _ { tmps := #[.pointer (some ⟨c.X, 0, none⟩), undef, .pointer (some ⟨w.heap.size, 0, none⟩), .pointer (some ⟨w.heap.size + 1, 0, none⟩), .agg #[.slice none 0 0, .slice none 0 0, .slice none 0 0], .pointer (some ⟨c.X, 0, none⟩), .bool true, u7, u8, u9, .bool false, .pointer (some ⟨c.X, 0, none⟩), .bool false, u13, u14, u15, u16, u17, u18, .bool true, .pointer (some ⟨c.X, 0, none⟩), .bool true, .pointer (some ⟨w.heap.size + 1, 1, none⟩), vL, .pointer (some ⟨c.X, 0, none⟩), .slice (some ⟨g1, 0, none⟩) d.length cap1, u26, u27, undef], defers := [] } _
          refine dr_one 4 rfl rfl (by kernel_rfl) ?_
          obtain ⟨i0, hi, hi0, hi1, hi2⟩ := info_parts infoDc
          refine wp_append_lies w4 _ _ 22 rfl w.heap.size 66 i0 _ 3 32 Tryz.underlying22 hi hi0 hi1 hi2 rfl (by decide) vL p.locks.length (dcsL p.locks) rfl PP.out.rL ⟨g1, 0, none⟩ d.length cap1 (dcsL d) rfl (dcsL_len d) (row_news hrow1) (dcsL_cells d) (List.length_pos_iff.2 hD.out.1) (by simp only [maxLen]; have := hD.out.2; omega) (by have := hD.out.2; omega) (by have := PP.out.pb.lt; omega) _ rfl ?_
          intro g2 cap2 w5 hown2 hgrow2 hlies2 hlt2
          refine ⟨trivial, ?_⟩
          change wpAnyH _ _ _ _ _ _ _ { tmps := #[.pointer (some ⟨c.X, 0, none⟩), undef, .pointer (some ⟨w.heap.size, 0, none⟩), .pointer (some ⟨w.heap.size + 1, 0, none⟩), .agg #[.slice none 0 0, .slice none 0 0, .slice none 0 0], .pointer (some ⟨c.X, 0, none⟩), .bool true, u7, u8, u9, .bool false, .pointer (some ⟨c.X, 0, none⟩), .bool false, u13, u14, u15, u16, u17, u18, .bool true, .pointer (some ⟨c.X, 0, none⟩), .bool true, .pointer (some ⟨w.heap.size + 1, 1, none⟩), vL, .pointer (some ⟨c.X, 0, none⟩), .slice (some ⟨g1, 0, none⟩) d.length cap1, .slice (some ⟨g2, 0, none⟩) (p.locks.length + d.length) cap2, u27, undef], defers := [] } _
          refine dr_take 5 (.pointer (some ⟨w.heap.size + 1, 1, none⟩)) rfl rfl (by kernel_rfl) (by kernel_rfl) (by kernel_rfl) (fun _ _ _ h => h) (fun _ _ => by unfold execOp; go_simp) trivial ?_
          change wpAnyH _ _ _ _ _ _ _ { tmps := #[.pointer (some ⟨c.X, 0, none⟩), undef, .pointer (some ⟨w.heap.size, 0, none⟩), .pointer (some ⟨w.heap.size + 1, 0, none⟩), .agg #[.slice none 0 0, .slice none 0 0, .slice none 0 0], .pointer (some ⟨c.X, 0, none⟩), .bool true, u7, u8, u9, .bool false, .pointer (some ⟨c.X, 0, none⟩), .bool false, u13, u14, u15, u16, u17, u18, .bool true, .pointer (some ⟨c.X, 0, none⟩), .bool true, .pointer (some ⟨w.heap.size + 1, 1, none⟩), vL, .pointer (some ⟨c.X, 0, none⟩), .slice (some ⟨g1, 0, none⟩) d.length cap1, .slice (some ⟨g2, 0, none⟩) (p.locks.length + d.length) cap2, .pointer (some ⟨w.heap.size + 1, 1, none⟩), undef], defers := [] } _
          refine dr_one 6 rfl rfl (by kernel_rfl) ?_
          have B3 := own_grown PP.out.pb hgrow2 (row_apart PP.out.rL PP.out.pb rfl)
          refine wp_st_dcs rfl rfl rfl (u := vL) (by rw [cell_of_row w5 _ 1 _ _ _ B3]; rfl) (own_frozen B3 1) ⟨trivial, ?_⟩
          rw [setCell_row B3 1 _]
          have A := Lib.hid ((A.out.grown hgrow2 (fun r hr => by have := (PP.out.rL.lt r hr).1; have := hX.out; omega)).setRow (g := w.heap.size + 1) (by omega) (by have := hX.out; omega) #[vS, .slice (some ⟨g2, 0, none⟩) (p.locks.length + d.length) cap2, .slice none 0 0])
          have PP := Lib.hid (PP.out.endL hgrow2 hown2 hlies2)
          refine wpAnyH_done (by kernel_rfl) ?_ _
          clear hrow1 hown2 hgrow2 hlies2 B3 hi hi0 hi1 hi2
          go_wp2_with fail
          go_roundg m
          case measure => omega
          case rel =>
           refine ⟨σ5, { p with locks := p.locks ++ d }, _, _, A.out, PP.out, HNX2.out, fun h => by have := (HN5.out h); have := (HFU.out.1 HOK.out); have := HLS.out; omega, fun h => by have := (HN5.out h); have := (HFU.out.2 HOK.out); have := HLS.out; simp only [List.length_append]; omega⟩
        · refine wp_call (vs := #[.pointer (some ⟨c.X, 0, none⟩)]) rfl rfl (enters_of Tryz.func71 (by kernel_rfl) rfl) (by simp [Act.eval]) (HC4.out _ (A.out.rs HS.out)) ?_
          rintro e w4 ⟨hf4, v1, rfl, hrow1, hR1⟩
          have hrow1 : w4.ownsRow W0.heap.size 66 3 v1 d.length (dcsL d) := hrow1
          have A := Lib.hid (A.out.call hf4 hR1)
          have PP := Lib.hid (PP.out.fr hf4 hX.out)
          obtain ⟨g1, cap1, rfl, hg1, hlt1⟩ := hrow1.form (List.length_pos_iff.2 hD.out.1)
          refine ⟨trivial, ?_⟩
          change wpAnyH _ _ _ _ _ _ _ { tmps := #[.pointer (some ⟨c.X, 0, none⟩), undef, .pointer (some ⟨w.heap.size, 0, none⟩), .pointer (some ⟨w.heap.size + 1, 0, none⟩), .agg #[.slice none 0 0, .slice none 0 0, .slice none 0 0], .pointer (some ⟨c.X, 0, none⟩), .bool true, u7, u8, u9, .bool false, .pointer (some ⟨c.X, 0, none⟩), .bool false, u13, u14, u15, u16, u17, u18, .bool true, .pointer (some ⟨c.X, 0, none⟩), .bool true, .pointer (some ⟨w.heap.size + 1, 1, none⟩), u23, .pointer (some ⟨c.X, 0, none⟩), .slice (some ⟨g1, 0, none⟩) d.length cap1, u26, u27, undef], defers := [] } _
          refine dr_one 1 rfl rfl (by kernel_rfl) ?_
          refine wp_ld_dcs rfl rfl (by rw [cell_of_row _ _ 1 _ _ _ PP.out.pb]; rfl) ⟨trivial, ?_⟩
          change wpAnyH _ _ _ _ _ _ _ { tmps := #[.pointer (some ⟨c.X, 0, none⟩), undef, .pointer (some ⟨w.heap.size, 0, none⟩), .pointer (some ⟨w.heap.size + 1, 0, none⟩), .agg #[.slice none 0 0, .slice none 0 0, .slice none 0 0], .pointer (some ⟨c.X, 0, none⟩), .bool true, u7, u8, u9, .bool false, .pointer (some ⟨c.X, 0, none⟩), .bool false, u13, u14, u15, u16, u17, u18, .bool true, .pointer (some ⟨c.X, 0, none⟩), .bool true, .pointer (some ⟨w.heap.size + 1, 1, none⟩), vL, .pointer (some ⟨c.X, 0, none⟩), .slice (some ⟨g1, 0, none⟩) d.length cap1, u26, u27, undef], defers := [] } _
          refine dr_one 4 rfl rfl (by kernel_rfl) ?_
          obtain ⟨i0, hi, hi0, hi1, hi2⟩ := info_parts infoDc
          refine wp_append_lies w4 _ _ 22 rfl w.heap.size 66 i0 _ 3 32 Tryz.underlying22 hi hi0 hi1 hi2 rfl (by decide) vL p.locks.length (dcsL p.locks) rfl PP.out.rL ⟨g1, 0, none⟩ d.length cap1 (dcsL d) rfl (dcsL_len d) (row_news hrow1) (dcsL_cells d) (List.length_pos_iff.2 hD.out.1) (by simp only [maxLen]; have := hD.out.2; omega) (by have := hD.out.2; omega) (by have := PP.out.pb.lt; omega) _ rfl ?_
          intro g2 cap2 w5 hown2 hgrow2 hlies2 hlt2
          refine ⟨trivial, ?_⟩
          change wpAnyH _ _ _ _ _ _ _ { tmps := #[.pointer (some ⟨c.X, 0, none⟩), undef, .pointer (some ⟨w.heap.size, 0, none⟩), .pointer (some ⟨w.heap.size + 1, 0, none⟩), .agg #[.slice none 0 0, .slice none 0 0, .slice none 0 0], .pointer (some ⟨c.X, 0, none⟩), .bool true, u7, u8, u9, .bool false, .pointer (some ⟨c.X, 0, none⟩), .bool false, u13, u14, u15, u16, u17, u18, .bool true, .pointer (some ⟨c.X, 0, none⟩), .bool true, .pointer (some ⟨w.heap.size + 1, 1, none⟩), vL, .pointer (some ⟨c.X, 0, none⟩), .slice (some ⟨g1, 0, none⟩) d.length cap1, .slice (some ⟨g2, 0, none⟩) (p.locks.length + d.length) cap2, u27, undef], defers := [] } _
          refine dr_take 5 (.pointer (some ⟨w.heap.size + 1, 1, none⟩)) rfl rfl (by kernel_rfl) (by kernel_rfl) (by kernel_rfl) (fun _ _ _ h => h) (fun _ _ => by unfold execOp; go_simp) trivial ?_
          change wpAnyH _ _ _ _ _ _ _ { tmps := #[.pointer (some ⟨c.X, 0, none⟩), undef, .pointer (some ⟨w.heap.size, 0, none⟩), .pointer (some ⟨w.heap.size + 1, 0, none⟩), .agg #[.slice none 0 0, .slice none 0 0, .slice none 0 0], .pointer (some ⟨c.X, 0, none⟩), .bool true, u7, u8, u9, .bool false, .pointer (some ⟨c.X, 0, none⟩), .bool false, u13, u14, u15, u16, u17, u18, .bool true, .pointer (some ⟨c.X, 0, none⟩), .bool true, .pointer (some ⟨w.heap.size + 1, 1, none⟩), vL, .pointer (some ⟨c.X, 0, none⟩), .slice (some ⟨g1, 0, none⟩) d.length cap1, .slice (some ⟨g2, 0, none⟩) (p.locks.length + d.length) cap2, .pointer (some ⟨w.heap.size + 1, 1, none⟩), undef], defers := [] } _
          refine dr_one 6 rfl rfl (by kernel_rfl) ?_
          have B3 := own_grown PP.out.pb hgrow2 (row_apart PP.out.rL PP.out.pb rfl)
          refine wp_st_dcs rfl rfl rfl (u := vL) (by rw [cell_of_row w5 _ 1 _ _ _ B3]; rfl) (own_frozen B3 1) ⟨trivial, ?_⟩
          rw [setCell_row B3 1 _]
          have A := Lib.hid ((A.out.grown hgrow2 (fun r hr => by have := (PP.out.rL.lt r hr).1; have := hX.out; omega)).setRow (g := w.heap.size + 1) (by omega) (by have := hX.out; omega) #[vS, .slice (some ⟨g2, 0, none⟩) (p.locks.length + d.length) cap2, .slice none 0 0])
          have PP := Lib.hid (PP.out.endL hgrow2 hown2 hlies2)
          refine wpAnyH_done (by kernel_rfl) ?_ _
          clear hrow1 hown2 hgrow2 hlies2 B3 hi hi0 hi1 hi2
          go_wp2_with fail
          go_roundg m
          case measure => omega
          case rel =>
           refine ⟨σ5, { p with locks := p.locks ++ d }, _, _, A.out, PP.out, HNX2.out, fun h => by have := (HN5.out h); have := (HFU.out.1 HOK.out); have := HLS.out; omega, fun h => by have := (HN5.out h); have := (HFU.out.2 HOK.out); have := HLS.out; simp only [List.length_append]; omega⟩
      · have H2 : Hid (σj.has c.L [108, 111, 99, 107] = false) := by simpa [Hid] using h2
        rw [H2.out] at HT2
        have HYF : Hid (Y = ({ p with threads := (threadsM c.L M [] σj).1 }, (threadsM c.L M [] σj).2)) := by
         rw [Hid, ← HL.out]
         simp only [declsM]
         rw [if_pos HOK.out, if_neg h1, if_neg h2, PP.out.th]
        obtain ⟨oS, kS, rfl, _⟩ := row_shape PP.out.rS
        obtain ⟨oL, kL, rfl, _⟩ := row_shape PP.out.rL
        have HC5 : Hid (∀ W, Rs c W σj → Calls Tryz.prog 72 #[.pointer (some ⟨c.X, 0, none⟩), .agg #[.slice oS p.shared.length kS, .slice oL p.locks.length kL, .slice none 0 0]] W (RsPost c W (threadsM c.L M [] σj) (ptR W.heap.size (.slice oS p.shared.length kS) (.slice oL p.locks.length kL)))) := fun W R => HTH.out W σj M oS oL _ _ kS kL R (fun h => (HFU.out.1 h).2)
        obtain ⟨T3, hT3⟩ : ∃ T3, T3 = threadsM c.L M [] σj := ⟨_, rfl⟩
        rw [← hT3] at HC5 HYF
        clear hT3 h1 h2 hok HL
        obtain ⟨l3, σ5⟩ := T3
        have HYF : Hid (Y = ({ p with threads := l3 }, σ5)) := HYF
        go_wp2_with fail
        go_at_call 29
        refine (HO.out).mono ?_
        rintro e w1 ⟨rfl, hb⟩
        have A := Lib.hid (A.out.below hb)
        have PP := Lib.hid (PP.out.below hb)
        clear hb HO
        go_wp2_with fail
        go_at_call 69
        refine (HT1.out _ (A.out.rs HS.out)).mono ?_
        rintro e w8 ⟨rfl, hf, hr⟩
        have A := Lib.hid (A.out.call hf (show Rs c w8 σj from by rw [show σj.take c.L [115, 104, 97, 114, 101, 100] = σj by unfold Sr.take; rw [if_neg (by rw [H1.out]; decide)]] at hr; exact hr))
        have PP := Lib.hid (PP.out.fr hf hX.out)
        clear hf hr HT1
        go_wp2_with fail
        go_at_call 69
        refine (HT2.out _ (A.out.rs HS.out)).mono ?_
        rintro e w9 ⟨rfl, hf, hr⟩
        have A := Lib.hid (A.out.call hf (show Rs c w9 σj from by rw [show σj.take c.L [108, 111, 99, 107] = σj by unfold Sr.take; rw [if_neg (by rw [H2.out]; decide)]] at hr; exact hr))
        have PP := Lib.hid (PP.out.fr hf hX.out)
        clear hf hr HT2
        have pb0 := PP.out.pb
        have hlt := pb0.lt
        go_wp2_with (first | (refine ld rowPg rfl rfl rfl pb0 rfl ?_))
        clear pb0
        go_at_call 72
        refine (HC5.out _ (A.out.rs HS.out)).mono ?_
        rintro e w3 ⟨hf, v3, rfl, ⟨a3, c3, rfl, hth⟩, hr⟩
        have A := Lib.hid (A.out.call hf hr)
        have PP := Lib.hid (PP.out.fr hf hX.out)
        have TH3 := Lib.hid (thsAt_stays (R' := fun b => w.heap.size + 1 < b) (Stays.refl _ w3) (fun b hb => Nat.lt_of_lt_of_le hlt hb) hth)
        clear hf hr hth hlt
        have rb0 : Own w3 w.heap.size 25 #[.slice none 0 0, .slice none 0 0, .slice none 0 0] := PP.out.rb
        go_wp2_with (first | (refine st rowPg rfl rfl rb0 rfl rfl (by rfl) (by rfl) (by kernel_rfl) ?_))
        have A := A.out.setRow (g := w.heap.size) (Nat.le_refl _) (by have := hX.out; omega) #[.slice oS p.shared.length kS, .slice oL p.locks.length kL, .slice a3 l3.length c3]
        refine p_ret rowPg rfl (rb0.row #[.slice oS p.shared.length kS, .slice oL p.locks.length kL, .slice a3 l3.length c3]) rfl rfl rfl ?_
        show RsPost c w Y _ _ _
        rw [HYF.out]
        exact ⟨A.fr, _, rfl, ⟨oS, kS, oL, kL, a3, c3, rfl, dcs_of (row_row PP.out.rS #[.slice oS p.shared.length kS, .slice oL p.locks.length kL, .slice a3 l3.length c3] (row_apart PP.out.rS PP.out.rb rfl)), dcs_of (row_row PP.out.rL #[.slice oS p.shared.length kS, .slice oL p.locks.length kL, .slice a3 l3.length c3] (row_apart PP.out.rL PP.out.rb rfl)), thsAt_stays (stays_row w3 (g := w.heap.size) #[.slice oS p.shared.length kS, .slice oL p.locks.length kL, .slice a3 l3.length c3] (fun b hb => by omega)) (fun b hb => by omega) TH3.out⟩, A.rs HS.out⟩
  · have hb : σj.ok = false := by simpa using hok
    rw [hb] at HO
    have HYF : Hid (Y = (p, σj)) := by
     rw [Hid, ← HL.out]
     exact bad_decls hb M gk p
    clear hok hb HL
    obtain ⟨oS, kS, rfl, _⟩ := row_shape PP.out.rS
    obtain ⟨oL, kL, rfl, _⟩ := row_shape PP.out.rL
    go_wp2_with fail
    go_at_call 29
    refine (HO.out).mono ?_
    rintro e w1 ⟨rfl, hb⟩
    have A := Lib.hid (A.out.below hb)
    have PP := Lib.hid (PP.out.below hb)
    clear hb HO
    have pb0 := PP.out.pb
    have rb0 : Own w1 w.heap.size 25 #[.slice none 0 0, .slice none 0 0, .slice none 0 0] := PP.out.rb
    go_wp2_with (first | (refine ld rowPg rfl rfl rfl pb0 rfl ?_) | (refine st rowPg rfl rfl rb0 rfl rfl (by rfl) (by rfl) (by kernel_rfl) ?_))
    have A := A.out.setRow (g := w.heap.size) (Nat.le_refl _) (by have := hX.out; omega) #[.slice oS p.shared.length kS, .slice oL p.locks.length kL, .slice none 0 0]
    refine p_ret rowPg rfl (rb0.row #[.slice oS p.shared.length kS, .slice oL p.locks.length kL, .slice none 0 0]) rfl rfl rfl ?_
    show RsPost c w Y _ _ _
    rw [HYF.out]
    exact ⟨A.fr, _, rfl, ⟨oS, kS, oL, kL, none, 0, by rw [PP.out.th]; rfl, dcs_of (row_row PP.out.rS #[.slice oS p.shared.length kS, .slice oL p.locks.length kL, .slice none 0 0] (row_apart PP.out.rS PP.out.rb rfl)), dcs_of (row_row PP.out.rL #[.slice oS p.shared.length kS, .slice oL p.locks.length kL, .slice none 0 0] (row_apart PP.out.rL PP.out.rb rfl)), .inl (by rw [PP.out.th]; rfl)⟩, A.rs HS.out⟩
end Go.Proofs.YtfogkobgjojpiaaGreatDoor

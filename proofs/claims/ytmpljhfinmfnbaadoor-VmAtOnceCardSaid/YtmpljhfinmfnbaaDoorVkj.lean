/- A core drains. -/
import Derived.Test.YtmpljhfinmfnbaaDoorVkg
namespace Go.Proofs.YtmpljhfinmfnbaaDoor
open Go.RowKit
set_option linter.unusedVariables false
set_option maxRecDepth 100000
section
variable {w : World} {p : Nat} {s : Vm} {F : List Nat} {cv pv : Value} {sd : Option Addr} {L : List (Co × Value × Value)} {PL : List Nat}
set_option maxHeartbeats 4000000 in
theorem p_Drain_no (h : VmX w p s F cv pv sd L PL) (k : Int) (hk : coreAt s k = none) : Calls Tryd.prog 18 #[.pointer (some ⟨p, 0, none⟩), .int .i64 k] w fun e w' => e = .returned (.tuple #[ddV d0, .int .i64 180]) ∧ Below w.heap.size w w' := by
  have hk2 : ¬ (0 ≤ k ∧ k < (L.length : Int)) := by have := core_no hk; rw [h.len]; omega
  have al := (Below.refl w.heap.size w).alloc (Nat.le_refl _) (.cells #[.int .u8 0, .int .i64 0, .int .i64 0, .int .i64 0, .int .i64 0, .int .i64 0, .bool false] 42)
  have HR : Hid (Calls Tryd.prog 39 #[.pointer (some ⟨p, 0, none⟩), .int .i64 k] (w.alloc (.cells #[.int .u8 0, .int .i64 0, .int .i64 0, .int .i64 0, .int .i64 0, .int .i64 0, .bool false] 42)) fun e w' => e = .returned (.int .i64 180) ∧ w.alloc (.cells #[.int .u8 0, .int .i64 0, .int .i64 0, .int .i64 0, .int .i64 0, .int .i64 0, .bool false] 42) = w') := by
    have h1 := p_refusal (h.below al) k
    rwa [if_neg hk2] at h1
  have O1 := Own.new w 42 #[.int .u8 0, .int .i64 0, .int .i64 0, .int .i64 0, .int .i64 0, .int .i64 0, .bool false]
  have HB := Lib.hid al
  obtain ⟨W1, hW1⟩ : ∃ W, W = w.alloc (.cells #[.int .u8 0, .int .i64 0, .int .i64 0, .int .i64 0, .int .i64 0, .int .i64 0, .bool false] 42) := ⟨_, rfl⟩
  rw [← hW1] at O1 HB HR
  have HW1 := Lib.hid hW1
  clear h hk hk2 al hW1
  go_enter Tryd.func18, Tryd.ntmps18
  go_upto_region 1 with fail
  rw [← HW1.out]
  clear HW1
  go_wp2_with (first | (go_at_call 39; refine HR.out.mono ?_; rintro e w' ⟨rfl, rfl⟩) | (refine st rowD rfl rfl O1 rfl rfl (by rfl) (by rfl) (by kernel_rfl) ?_))
  exact p_ret2 rowD rfl (O1.row _) rfl rfl rfl rfl ⟨rfl, Below.of_row HB.out (Nat.le_refl _) _⟩
set_option maxHeartbeats 4000000 in
theorem p_Drain_nil (h : VmX w p s F cv pv sd L PL) (R : VmR s) (kk : Nat) {c : Co} (hc : s.cores[kk]? = some c) (hb : c.buf = []) : Calls Tryd.prog 18 #[.pointer (some ⟨p, 0, none⟩), .int .i64 (kk : Int)] w fun e w' => e = .returned (.tuple #[ddV d0, .int .i64 0]) ∧ Below w.heap.size w w' := by
  obtain ⟨bv, cvv, hL⟩ := h.core hc
  have hlt : kk < L.length := (List.getElem?_eq_some_iff.1 hL).1
  have al := (Below.refl w.heap.size w).alloc (Nat.le_refl _) (.cells #[.int .u8 0, .int .i64 0, .int .i64 0, .int .i64 0, .int .i64 0, .int .i64 0, .bool false] 42)
  have hX := h.below al
  have HR : Hid (Calls Tryd.prog 39 #[.pointer (some ⟨p, 0, none⟩), .int .i64 (kk : Int)] (w.alloc (.cells #[.int .u8 0, .int .i64 0, .int .i64 0, .int .i64 0, .int .i64 0, .int .i64 0, .bool false] 42)) fun e w' => e = .returned (.int .i64 0) ∧ w.alloc (.cells #[.int .u8 0, .int .i64 0, .int .i64 0, .int .i64 0, .int .i64 0, .int .i64 0, .bool false] 42) = w') := by
    have h1 := p_refusal hX (kk : Int)
    rwa [if_pos ⟨by omega, by omega⟩] at h1
  have O1 := Own.new w 42 #[.int .u8 0, .int .i64 0, .int .i64 0, .int .i64 0, .int .i64 0, .int .i64 0, .bool false]
  have HB := Lib.hid al
  obtain ⟨W1, hW1⟩ : ∃ W, W = w.alloc (.cells #[.int .u8 0, .int .i64 0, .int .i64 0, .int .i64 0, .int .i64 0, .int .i64 0, .bool false] 42) := ⟨_, rfl⟩
  rw [← hW1] at O1 HB HR hX
  have HW1 := Lib.hid hW1
  obtain ⟨g, cap, e1, hco⟩ := hX.cop R hL
  have p0 : W1.cell? ⟨p, 0, none⟩ = some (.slice (some ⟨g, 0, none⟩) L.length cap) := by rw [← e1]; exact row_cellsO hX.own 0 _ rfl
  have c1' : W1.cell? ⟨g, kk * 20 + 1, none⟩ = some (.bool c.hal) := hco.hal
  have hltI : (kk : Int) < (L.length : Int) := by omega
  have hk0 : (0 : Int) ≤ (kk : Int) := by omega
  have hbo : ∃ ab cb, bv = .slice ab 0 cb := by
    obtain ⟨ab, cb, e2, _⟩ := ownsQ_slice (hX.buf _ (List.mem_of_getElem? hL))
    simp only [hb, List.length_nil] at e2
    exact ⟨ab, cb, e2⟩
  obtain ⟨ab, cb, hbo⟩ := hbo
  have HTK := Lib.hid (p_take_nil hco hbo)
  clear h R hco hX hbo al hW1
  go_enter Tryd.func18, Tryd.ntmps18
  go_upto_region 1 with fail
  rw [← HW1.out]
  clear HW1
  go_wp2_with (first | (go_at_call 39; refine HR.out.mono ?_; rintro e w' ⟨rfl, rfl⟩) | (go_at_call 43; refine HTK.out.mono ?_; rintro e w2 ⟨rfl, hb2⟩; have O2 := O1.below hb2; have HB2 := Lib.hid (HB.out.trans (hb2.mono HB.out.size)); have OS := Own.new w2 76 #[.int .i64 0, .int .i64 0, .int .i64 0]; have HSV := Lib.hid (HB2.out.trans ((Below.of_row ((Below.refl w2.heap.size w2).alloc (Nat.le_refl _) (.cells #[.int .i64 0, .int .i64 0, .int .i64 0] 76)) (Nat.le_refl _) #[.int .i64 0, .int .i64 0, .int .i64 0]).mono HB2.out.size)); have O3 := (O2.alloc (.cells #[.int .i64 0, .int .i64 0, .int .i64 0] 76)).other (g := w2.heap.size) #[.int .i64 0, .int .i64 0, .int .i64 0] (Nat.ne_of_lt O2.lt); clear hb2) | (refine st rowS rfl rfl OS rfl rfl (by rfl) (by rfl) (by kernel_rfl) ?_) | (refine st rowD rfl rfl O3 rfl rfl (by rfl) (by rfl) (by kernel_rfl) ?_))
  exact p_ret2 rowD rfl (O3.row _) rfl rfl rfl rfl ⟨rfl, Below.of_row HSV.out (Nat.le_refl _) _⟩
set_option maxHeartbeats 4000000 in
theorem p_Drain_go (h : VmX w p s F cv pv sd L PL) (R : VmR s) (kk : Nat) {c : Co} (hc : s.cores[kk]? = some c) (hF : ∀ k ∈ F, k < w.heap.size) {x : Sto} {r : List Sto} (hb : c.buf = x :: r) : Calls Tryd.prog 18 #[.pointer (some ⟨p, 0, none⟩), .int .i64 (kk : Int)] w fun e w' => e = .returned (.tuple #[ddV ⟨8, kk, x.p, x.a, x.x, 0, false⟩, .int .i64 0]) ∧ StepR w p { s with cores := s.cores.set kk { c with buf := r }, mem := rset s.mem x.a x.x } F w' := by
  obtain ⟨bv, cvv, hL⟩ := h.core hc
  have hlt : kk < L.length := (List.getElem?_eq_some_iff.1 hL).1
  have al := (Below.refl w.heap.size w).alloc (Nat.le_refl _) (.cells #[.int .u8 0, .int .i64 0, .int .i64 0, .int .i64 0, .int .i64 0, .int .i64 0, .bool false] 42)
  have hX := h.below al
  have HR : Hid (Calls Tryd.prog 39 #[.pointer (some ⟨p, 0, none⟩), .int .i64 (kk : Int)] (w.alloc (.cells #[.int .u8 0, .int .i64 0, .int .i64 0, .int .i64 0, .int .i64 0, .int .i64 0, .bool false] 42)) fun e w' => e = .returned (.int .i64 0) ∧ w.alloc (.cells #[.int .u8 0, .int .i64 0, .int .i64 0, .int .i64 0, .int .i64 0, .int .i64 0, .bool false] 42) = w') := by
    have h1 := p_refusal hX (kk : Int)
    rwa [if_pos ⟨by omega, by omega⟩] at h1
  have O1 := Own.new w 42 #[.int .u8 0, .int .i64 0, .int .i64 0, .int .i64 0, .int .i64 0, .int .i64 0, .bool false]
  have HB := Lib.hid al
  obtain ⟨W1, hW1⟩ : ∃ W, W = w.alloc (.cells #[.int .u8 0, .int .i64 0, .int .i64 0, .int .i64 0, .int .i64 0, .int .i64 0, .bool false] 42) := ⟨_, rfl⟩
  rw [← hW1] at O1 HB HR hX
  have HW1 := Lib.hid hW1
  obtain ⟨g, cap, e1, hco⟩ := hX.cop R hL
  have p0 : W1.cell? ⟨p, 0, none⟩ = some (.slice (some ⟨g, 0, none⟩) L.length cap) := by rw [← e1]; exact row_cellsO hX.own 0 _ rfl
  have c1' : W1.cell? ⟨g, kk * 20 + 1, none⟩ = some (.bool c.hal) := hco.hal
  have hltI : (kk : Int) < (L.length : Int) := by omega
  have hk0 : (0 : Int) ≤ (kk : Int) := by omega
  have hcr := R.cores c (List.mem_of_getElem? hc)
  have hxa : 0 ≤ x.a ∧ x.a < s.mem.length := hcr.buf x (by rw [hb]; simp)
  have hq0 : ownsQ W1 0 76 3 bv (r.length + 1) (stoC x ++ stoF r) := by
    have h1 := hX.buf _ (List.mem_of_getElem? hL)
    simp only [hb] at h1
    exact h1
  have HTK := Lib.hid (p_take hco hq0)
  have HH := Lib.hid (And.intro hX (And.intro R (And.intro hc (And.intro hL (And.intro e1 (And.intro hF hxa))))))
  clear h R hco hX hq0 hcr hxa e1 hL hF hb hc al hW1
  go_enter Tryd.func18, Tryd.ntmps18
  go_upto_region 1 with fail
  rw [← HW1.out]
  clear HW1
  go_upto_region 7 with (first | (go_at_call 39; refine HR.out.mono ?_; rintro e w' ⟨rfl, rfl⟩) | (go_at_call 43; refine HTK.out.mono ?_; rintro e w2 ⟨rfl, bv', hq, hbo, hb2⟩; have OS := Own.new w2 76 #[.int .i64 0, .int .i64 0, .int .i64 0]) | (refine st rowS rfl rfl OS rfl rfl (by rfl) (by rfl) (by kernel_rfl) ?_))
  obtain ⟨Bs, hBs⟩ : ∃ x, x = w2.heap.size := ⟨_, rfl⟩
  rw [← hBs]
  have HV : Hid (VmX ((w2.alloc (.cells #[.int .i64 0, .int .i64 0, .int .i64 0] 76)).setRow Bs #[.int .i64 x.p, .int .i64 x.a, .int .i64 x.x]) p { s with cores := s.cores.set kk { c with buf := r } } F cv pv sd (L.set kk ({ c with buf := r }, bv', cvv)) PL ∧ Own ((w2.alloc (.cells #[.int .i64 0, .int .i64 0, .int .i64 0] 76)).setRow Bs #[.int .i64 x.p, .int .i64 x.a, .int .i64 x.x]) w.heap.size 42 #[.int .u8 0, .int .i64 0, .int .i64 0, .int .i64 0, .int .i64 0, .int .i64 0, .bool false] ∧ Own ((w2.alloc (.cells #[.int .i64 0, .int .i64 0, .int .i64 0] 76)).setRow Bs #[.int .i64 x.p, .int .i64 x.a, .int .i64 x.x]) Bs 76 #[.int .i64 x.p, .int .i64 x.a, .int .i64 x.x] ∧ KeepV F w ((w2.alloc (.cells #[.int .i64 0, .int .i64 0, .int .i64 0] 76)).setRow Bs #[.int .i64 x.p, .int .i64 x.a, .int .i64 x.x])) := by
    obtain ⟨hX, R, hc, hL, e1, hF, hxa⟩ := HH.out
    obtain ⟨cur, hgc⟩ := row_cur hX.cors e1
    have hy := List.mem_of_getElem? hL
    have hgF : g ∈ F := hX.cF g (by rw [e1]; rfl)
    have hqs : ownsQ (W1.setCell ⟨g, kk * 20 + 18, none⟩ bv') 0 76 3 bv' r.length (stoF r) := ownsQ_stays hq fun b e => Below.heap_setCell _ _ _ b (by intro e2; subst e2; exact ownsQ_apart hq hgc (by decide) e)
    have h1 := hX.setCo (hX.rg R) hL e1 (c' := { c with buf := r }) (bv' := bv') (j := 18) (u := bv') (by omega) (coC_buf _ _ _ (hX.rg R _ hy) _ _) rfl hqs (fun b e => hX.bF _ hy b (hbo ▸ e)) (fun i x hi hx b e q => hX.apart i kk x _ hx hL hi b q (hbo ▸ e))
    have hsz : (W1.setCell ⟨g, kk * 20 + 18, none⟩ bv').heap.size = W1.heap.size := by simp [World.setCell]
    have hb3 := hb2
    rw [← hsz] at hb3
    have al := Below.of_row ((Below.refl w2.heap.size w2).alloc (Nat.le_refl _) (.cells #[.int .i64 0, .int .i64 0, .int .i64 0] 76)) (Nat.le_refl _) #[.int .i64 x.p, .int .i64 x.a, .int .i64 x.x]
    rw [hBs]
    have hgw : g ≠ w.heap.size := by have := hF g hgF; omega
    exact ⟨(h1.below hb3).below al, (((own_setother (Ne.symm hgw) O1 _ _).below hb3).below al), (Own.new w2 _ _).row _, ((keepV_below HB.out).trans (keepV_set hgF hb2 (not_imm hgc (by decide) (by decide) (by decide)))).trans (keepV_below al)⟩
  have HLT : Hid (w.heap.size < Bs) := by
    have h1 := O1.lt
    have h2 := hb2.size
    rw [Hid, hBs]
    simp only [World.setCell, Array.size_modify] at h2
    omega
  clear hq hbo hb2 OS O1 HB hBs p0 c1' HTK HR
  generalize (w2.alloc (.cells #[.int .i64 0, .int .i64 0, .int .i64 0] 76)).setRow Bs #[.int .i64 x.p, .int .i64 x.a, .int .i64 x.x] = W3 at HV ⊢
  have dw : Below W3.heap.size W3 W3.drew := below_drewN (Below.refl _ W3) 1
  have HV4 : Hid (VmX W3.drew p { s with cores := s.cores.set kk { c with buf := r } } F cv pv sd (L.set kk ({ c with buf := r }, bv', cvv)) PL ∧ Own W3.drew w.heap.size 42 #[.int .u8 0, .int .i64 0, .int .i64 0, .int .i64 0, .int .i64 0, .int .i64 0, .bool false] ∧ Own W3.drew Bs 76 #[.int .i64 x.p, .int .i64 x.a, .int .i64 x.x] ∧ KeepV F w W3.drew) := ⟨HV.out.1.below dw, HV.out.2.1.below dw, HV.out.2.2.1.below dw, HV.out.2.2.2.trans (keepV_below dw)⟩
  clear dw HV
  obtain ⟨a1, c1, hpv⟩ := row_slice HV4.out.1.pgs
  have HPV := Lib.hid hpv
  refine wp_region_held (S := fun V => ((V.cell? ⟨p, 2, none⟩ = some (.slice a1 PL.length c1) ∧ V.cell? ⟨p, 3, none⟩ = some (.int .i64 (s.mem.length : Int))) ∧ V.cell? ⟨Bs, 1, none⟩ = some (.int .i64 x.a)) ∧ V.cell? ⟨Bs, 2, none⟩ = some (.int .i64 x.x)) (by kernel_rfl) ?_
  change wpAnyH _ _ _ _ _ _ _ _ W3.drew
  generalize W3.drew = W4 at HV4 ⊢
  have HSX : Hid (((W4.cell? ⟨p, 2, none⟩ = some (.slice a1 PL.length c1) ∧ W4.cell? ⟨p, 3, none⟩ = some (.int .i64 (s.mem.length : Int))) ∧ W4.cell? ⟨Bs, 1, none⟩ = some (.int .i64 x.a)) ∧ W4.cell? ⟨Bs, 2, none⟩ = some (.int .i64 x.x)) := ⟨⟨⟨by rw [← hpv]; exact row_cellsO HV4.out.1.own 2 _ rfl, row_cellsO HV4.out.1.own 3 _ rfl⟩, row_cellsO HV4.out.2.2.1 1 _ rfl⟩, row_cellsO HV4.out.2.2.1 2 _ rfl⟩
  clear hpv
  change wpAnyH _ _ _ _ _ _ _ { tmps := List.toArray (_ :: _ :: _ :: _ :: _ :: _ :: _ :: _ :: _ :: _ :: _ :: _ :: _ :: _ :: _ :: _ :: _ :: _ :: _ :: _ :: _ :: _ :: _ :: _ :: _ :: _ :: _ :: _ :: _ :: _ :: _ :: _ :: _ :: _ :: _ :: _ :: _ :: _ :: _ :: _ :: _ :: _ :: _ :: _ :: _ :: _ :: []), defers := [] } _
  refine dr_take 0 (.pointer (some ⟨p, 0, none⟩)) rfl rfl (by kernel_rfl) (by kernel_rfl) (by kernel_rfl) (fun _ _ _ h => h) (fun _ _ => by unfold execOp; go_simp) HSX.out ?_
  change wpAnyH _ _ _ _ _ _ _ { tmps := List.toArray (_ :: _ :: _ :: _ :: _ :: _ :: _ :: _ :: _ :: _ :: _ :: _ :: _ :: _ :: _ :: _ :: _ :: _ :: _ :: _ :: _ :: _ :: _ :: _ :: _ :: _ :: _ :: _ :: _ :: _ :: _ :: _ :: _ :: _ :: _ :: _ :: _ :: _ :: _ :: _ :: _ :: _ :: _ :: _ :: _ :: _ :: []), defers := [] } _
  refine dr_take 1 (.pointer (some ⟨p, 0, none⟩)) rfl rfl (by kernel_rfl) (by kernel_rfl) (by kernel_rfl) (fun _ _ _ h => h) (fun _ _ => by unfold execOp; go_simp) HSX.out ?_
  change wpAnyH _ _ _ _ _ _ _ { tmps := List.toArray (_ :: _ :: _ :: _ :: _ :: _ :: _ :: _ :: _ :: _ :: _ :: _ :: _ :: _ :: _ :: _ :: _ :: _ :: _ :: _ :: _ :: _ :: _ :: _ :: _ :: _ :: _ :: _ :: _ :: _ :: _ :: _ :: _ :: _ :: _ :: _ :: _ :: _ :: _ :: _ :: _ :: _ :: _ :: _ :: _ :: _ :: []), defers := [] } _
  refine dr_take 2 (.pointer (some ⟨p, 2, none⟩)) rfl rfl (by kernel_rfl) (by kernel_rfl) (by kernel_rfl) (fun _ _ _ h => h) (fun _ _ => by unfold execOp; go_simp) HSX.out ?_
  change wpAnyH _ _ _ _ _ _ _ { tmps := List.toArray (_ :: _ :: _ :: _ :: _ :: _ :: _ :: _ :: _ :: _ :: _ :: _ :: _ :: _ :: _ :: _ :: _ :: _ :: _ :: _ :: _ :: _ :: _ :: _ :: _ :: _ :: _ :: _ :: _ :: _ :: _ :: _ :: _ :: _ :: _ :: _ :: _ :: _ :: _ :: _ :: _ :: _ :: _ :: _ :: _ :: _ :: []), defers := [] } _
  refine dr_take 3 (.agg #[.slice a1 PL.length c1, .int .i64 (s.mem.length : Int)]) rfl rfl (by kernel_rfl) (by kernel_rfl) (by kernel_rfl) (fun _ _ _ h => h) (fun V h => by have h0 := h.1.1.1; have h1 := h.1.1.2; clear h; unfold execOp; go_simp) HSX.out ?_
  change wpAnyH _ _ _ _ _ _ _ { tmps := List.toArray (_ :: _ :: _ :: _ :: _ :: _ :: _ :: _ :: _ :: _ :: _ :: _ :: _ :: _ :: _ :: _ :: _ :: _ :: _ :: _ :: _ :: _ :: _ :: _ :: _ :: _ :: _ :: _ :: _ :: _ :: _ :: _ :: _ :: _ :: _ :: _ :: _ :: _ :: _ :: _ :: _ :: _ :: _ :: _ :: _ :: _ :: []), defers := [] } _
  refine dr_take 4 (.pointer (some ⟨Bs, 1, none⟩)) rfl rfl (by kernel_rfl) (by kernel_rfl) (by kernel_rfl) (fun _ _ _ h => h) (fun _ _ => by unfold execOp; go_simp) HSX.out ?_
  change wpAnyH _ _ _ _ _ _ _ { tmps := List.toArray (_ :: _ :: _ :: _ :: _ :: _ :: _ :: _ :: _ :: _ :: _ :: _ :: _ :: _ :: _ :: _ :: _ :: _ :: _ :: _ :: _ :: _ :: _ :: _ :: _ :: _ :: _ :: _ :: _ :: _ :: _ :: _ :: _ :: _ :: _ :: _ :: _ :: _ :: _ :: _ :: _ :: _ :: _ :: _ :: _ :: _ :: []), defers := [] } _
  refine dr_take 5 (.int .i64 x.a) rfl rfl (by kernel_rfl) (by kernel_rfl) (by kernel_rfl) (fun _ _ _ h => h) (fun V h => by have h0 := h.1.2; clear h; unfold execOp; go_simp) HSX.out ?_
  change wpAnyH _ _ _ _ _ _ _ { tmps := List.toArray (_ :: _ :: _ :: _ :: _ :: _ :: _ :: _ :: _ :: _ :: _ :: _ :: _ :: _ :: _ :: _ :: _ :: _ :: _ :: _ :: _ :: _ :: _ :: _ :: _ :: _ :: _ :: _ :: _ :: _ :: _ :: _ :: _ :: _ :: _ :: _ :: _ :: _ :: _ :: _ :: _ :: _ :: _ :: _ :: _ :: _ :: []), defers := [] } _
  refine dr_take 6 (.pointer (some ⟨Bs, 2, none⟩)) rfl rfl (by kernel_rfl) (by kernel_rfl) (by kernel_rfl) (fun _ _ _ h => h) (fun _ _ => by unfold execOp; go_simp) HSX.out ?_
  change wpAnyH _ _ _ _ _ _ _ { tmps := List.toArray (_ :: _ :: _ :: _ :: _ :: _ :: _ :: _ :: _ :: _ :: _ :: _ :: _ :: _ :: _ :: _ :: _ :: _ :: _ :: _ :: _ :: _ :: _ :: _ :: _ :: _ :: _ :: _ :: _ :: _ :: _ :: _ :: _ :: _ :: _ :: _ :: _ :: _ :: _ :: _ :: _ :: _ :: _ :: _ :: _ :: _ :: []), defers := [] } _
  refine dr_take 7 (.int .i64 x.x) rfl rfl (by kernel_rfl) (by kernel_rfl) (by kernel_rfl) (fun _ _ _ h => h) (fun V h => by have h0 := h.2; clear h; unfold execOp; go_simp) HSX.out ?_
  change wpAnyH _ _ _ _ _ _ _ { tmps := List.toArray (_ :: _ :: _ :: _ :: _ :: _ :: _ :: _ :: _ :: _ :: _ :: _ :: _ :: _ :: _ :: _ :: _ :: _ :: _ :: _ :: _ :: _ :: _ :: _ :: _ :: _ :: _ :: _ :: _ :: _ :: _ :: _ :: _ :: _ :: _ :: _ :: _ :: _ :: _ :: _ :: _ :: _ :: _ :: _ :: _ :: _ :: []), defers := [] } _
  refine dr_one 8 rfl rfl (by kernel_rfl) ?_
  have HPP : Hid (Calls Tryd.prog 44 #[.agg #[.slice a1 PL.length c1, .int .i64 (s.mem.length : Int)], .int .i64 x.a, .int .i64 x.x] W4 fun e w' => e = .returned (.tuple #[]) ∧ ∃ gp g2, a1 = some ⟨gp, 0, none⟩ ∧ W4.heap.size ≤ g2 ∧ Below W4.heap.size (W4.setCell ⟨gp, x.a.toNat / 32, none⟩ (.pointer (some ⟨g2, 0, none⟩))) w' ∧ PgA w' (rset s.mem x.a x.x) (.slice a1 PL.length c1) (PL.set (x.a.toNat / 32) g2)) := by
    obtain ⟨hX, R, hc, hL, e1, hF, hxa⟩ := HH.out
    have h1 := HV4.out.1.pga
    rw [HPV.out] at h1
    have h2 := p_put h1 (s.mem.length : Int) R.mem (n := x.a.toNat) (by show _ < s.mem.length; omega) x.x
    rw [show ((x.a.toNat : Nat) : Int) = x.a by omega] at h2
    exact h2
  refine wp_callT (vs := #[.agg #[.slice a1 PL.length c1, .int .i64 (s.mem.length : Int)], .int .i64 x.a, .int .i64 x.x]) rfl rfl (enters_of Tryd.func44 (by kernel_rfl) rfl) (by simp [Act.eval]) HPP.out ?_
  rintro e W5 ⟨rfl, gp, g2, hgp, hg2, hb5, hpg⟩
  have hpv : pv = .slice (some ⟨gp, 0, none⟩) PL.length c1 := by rw [HPV.out, hgp]
  obtain ⟨cur, hcur⟩ := row_cur HV4.out.1.pgs hpv
  have hsz : (W4.setCell ⟨gp, x.a.toNat / 32, none⟩ (.pointer (some ⟨g2, 0, none⟩))).heap.size = W4.heap.size := by simp [World.setCell]
  have hb6 := hb5
  rw [← hsz] at hb6
  have st1 : ∀ {k : Nat} {T : TypeId} {q : Array Value}, Own W4 k T q → (T == 136) = false → Own W5 k T q := fun h1 ht => (own_setother (own_unlike h1 hcur ht) h1 _ _).below hb6
  have HV5 : Hid (VmX W5 p { s with cores := s.cores.set kk { c with buf := r }, mem := rset s.mem x.a x.x } F cv pv sd (L.set kk ({ c with buf := r }, bv', cvv)) (PL.set (x.a.toNat / 32) g2) ∧ Own W5 w.heap.size 42 #[.int .u8 0, .int .i64 0, .int .i64 0, .int .i64 0, .int .i64 0, .int .i64 0, .bool false] ∧ Own W5 Bs 76 #[.int .i64 x.p, .int .i64 x.a, .int .i64 x.x] ∧ KeepV F w W5) := ⟨HV4.out.1.putPage hpv hb5 (by rw [HPV.out]; exact hpg), st1 HV4.out.2.1 (by decide), st1 HV4.out.2.2.1 (by decide), HV4.out.2.2.2.trans (keepV_set (HV4.out.1.gF gp (by rw [hpv]; rfl)) hb5 (not_imm hcur (by decide) (by decide) (by decide)))⟩
  have hp5 := HV5.out.1.own
  refine ⟨⟨⟨⟨by rw [← HPV.out]; exact row_cellsO hp5 2 _ rfl, (row_cellsO hp5 3 _ rfl).trans (by rw [show (rset s.mem x.a x.x).length = s.mem.length from rset_len ..]; rfl)⟩, row_cellsO HV5.out.2.2.1 1 _ rfl⟩, row_cellsO HV5.out.2.2.1 2 _ rfl⟩, ?_⟩
  refine wpAnyH_done (by kernel_rfl) ?_ _
  clear HV4 HSX HPP hgp hg2 hb5 hpg hpv hcur hsz hb6 st1 hp5
  have O5 := HV5.out.2.1
  have s0 : W5.cell? ⟨Bs, 0, none⟩ = some (.int .i64 x.p) := row_cellsO HV5.out.2.2.1 0 _ rfl
  have s1 : W5.cell? ⟨Bs, 1, none⟩ = some (.int .i64 x.a) := row_cellsO HV5.out.2.2.1 1 _ rfl
  have s2 : W5.cell? ⟨Bs, 2, none⟩ = some (.int .i64 x.x) := row_cellsO HV5.out.2.2.1 2 _ rfl
  go_wp2_with (refine st rowD rfl rfl O5 rfl rfl (by rfl) (by rfl) (by kernel_rfl) ?_)
  have kv := keepV_row O5 (by decide) (by decide) (by decide) #[.int .u8 8, .int .i64 (kk : Int), .int .i64 x.p, .int .i64 x.a, .int .i64 x.x, .int .i64 0, .bool false]
  obtain ⟨hX, R, hc, hL, e1, hF, hxa⟩ := HH.out
  refine p_ret2 rowD rfl (O5.row _) rfl rfl rfl rfl ⟨rfl, F, ⟨_, _, _, _, _, HV5.out.1.keep kv fun k hk q => ?_⟩, keepV_new HV5.out.2.2.2 kv fun k hk => .inr ?_, fun k hk => .inl hk⟩
  · rw [List.mem_singleton] at q
    have := hF k hk; omega
  · rw [List.mem_singleton] at hk; omega
end
end Go.Proofs.YtmpljhfinmfnbaaDoor

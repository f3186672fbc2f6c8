/- Memory in pages: slices.Chunk. -/
import Derived.Test.YtmpljhfinmfnbaaDoorVka
import Derived.Test.YtmpljhfinmfnbaaDoorKp
import Derived.Test.YtmpljhfinmfnbaaDoorVh0
namespace Go.Proofs.YtmpljhfinmfnbaaDoor
open Go.RowKit Go.Shelf
set_option linter.unusedVariables false
set_option maxRecDepth 100000
attribute [local go_sem] Oper.semAt_some
def encP (g : Nat) (x : Nat × Nat) : Array Value := #[.slice (some ⟨g, x.1, none⟩) x.2 x.2]
def okP (q len : Nat) (pre : List (Nat × Nat)) (x : Nat × Nat) : Prop := 32 * pre.length < len ∧ x = (q + 32 * pre.length, min 32 (len - 32 * pre.length))
theorem chunk_in (F : Fence) (n : Nat) (hF : F.fn 77) (hro : F.round = none) (a : Option Addr) (len cap : Nat) (w : World) :
    CallsIn F n Tryd.prog 77 #[.slice a len cap, .int .i64 32] w fun e w' => e = .returned (.func (.func 98) #[] #[.pointer (some ⟨w.heap.size, 0, none⟩), .pointer (some ⟨w.heap.size + 1, 0, none⟩)]) ∧ w' = (w.alloc (.cells #[.slice a len cap] 22)).alloc (.cells #[.int .i64 32] 3) := by
  refine callsIn_of_wp Tryd.func77 rfl hF ?_ hro
  simp only [Tryd.ntmps77, List.size_toArray, List.length_cons, List.length_nil, Nat.reduceAdd, Nat.reduceSub, Array.replicate_succ, Array.replicate_zero, List.push_toArray, List.append_toArray, List.nil_append, List.cons_append]
  gi_wp2
  go_ret
  exact ⟨rfl, rfl⟩
set_option maxHeartbeats 4000000 in
theorem chunk1_in (F : Fence) (n : Nat) (hF : F.fn 98) (hro : F.round = none) (hn : 1 ≤ n) (l Bs g q len cap : Nat) (hlen : len ≤ 4096) (hcap : len ≤ cap) (hcm : cap ≤ 9223372036854775807) (sY : Nat → Obj → Prop) (hYb : ∀ cu, sY Bs (.cells cu 22 (0, 0)) ∧ sY (Bs + 1) (.cells cu 3 (0, 0))) (J Jx : List (Nat × Nat) → World → Prop) (hJ : ∀ s A B, J s A → Keep (fun _ _ => True) A B → J s B)
    (hY : ∀ pre x W, J pre W → okP q len pre x → YieldAt F (n - 1) Tryd.prog l (encP g x) W fun e W' =>
      (e = .returned (.bool true) ∧ J (pre ++ [x]) W' ∧ Keep sY W W') ∨ (e = .returned (.bool false) ∧ Jx (pre ++ [x]) W' ∧ Keep sY W W'))
    (W : World) (hBs : W.heap[Bs]? = some (.cells #[.slice (some ⟨g, q, none⟩) len cap] 22 (0, 0))) (hBn : W.heap[Bs + 1]? = some (.cells #[.int .i64 32] 3 (0, 0))) (h0 : J [] W) :
    CallsIn F n Tryd.prog 98 #[.func (.yield l) #[] #[], .pointer (some ⟨Bs, 0, none⟩), .pointer (some ⟨Bs + 1, 0, none⟩)] W fun e W' => (∃ v, e = .returned v) ∧
      ((∃ xs, xs.length = (len + 31) / 32 ∧ J xs W') ∨ (∃ pre, Jx pre W')) := by
  refine callsIn_of_wp Tryd.func98 rfl hF ?_ hro
  simp only [Tryd.ntmps98, List.size_toArray, List.length_cons, List.length_nil, Nat.reduceAdd, Nat.reduceSub, Array.replicate_succ, Array.replicate_zero, List.push_toArray, List.append_toArray, List.nil_append, List.cons_append]
  gi_wp2
  gi_loopw [4] (fun i wr => ∃ pre : List (Nat × Nat), 32 * pre.length < len + 32 ∧ i = .int .i64 ((32 * pre.length : Nat) : Int) ∧ J pre wr ∧ Keep sY W wr)
    (fun i _ => len + 64 - (intOf i).toNat)
  case atStart => exact ⟨[], by simp, by simp, h0, Keep.refl _ _⟩
  case round =>
    obtain ⟨pre, hk, rfl, hJs, hnx⟩ := hrel
    have hb1 : wr.cell? ⟨Bs, 0, none⟩ = some (.slice (some ⟨g, q, none⟩) len cap) := by rw [cell_of_row _ _ 0 _ _ _ (hnx.block _ _ hBs (hYb _).1)]; rfl
    have hb2 : wr.cell? ⟨Bs + 1, 0, none⟩ = some (.int .i64 32) := by rw [cell_of_row _ _ 0 _ _ _ (hnx.block _ _ hBn (hYb _).2)]; rfl
    by_cases hlt : 32 * pre.length < len
    · obtain ⟨fn, tmps, assign, body, hy, hR⟩ := hY pre (q + 32 * pre.length, min 32 (len - 32 * pre.length)) wr.drew (hJ _ _ _ hJs ((Keep.refl _ wr).drewN 1)) ⟨hlt, rfl⟩
      obtain ⟨m, hm⟩ : ∃ m, m = min 32 (len - 32 * pre.length) := ⟨_, rfl⟩
      rw [← hm] at hy hR
      obtain ⟨k, hkk⟩ : ∃ k, k = 32 * pre.length := ⟨_, rfl⟩
      rw [← hkk] at hy hR hm hlt ⊢
      simp only [encP] at hy
      have hki : (k : Int) < (len : Int) := by omega
      have hk0 : (0 : Int) ≤ (k : Int) := by omega
      have HN := Lib.hid hnx
      have HK := Lib.hid (And.intro hkk (And.intro hm (And.intro hk hlt)))
      clear hnx hJs hk hkk hJ hY
      have hmin : (if ((len - k : Nat) : Int) < 32 then ((len - k : Nat) : Int) else 32) = (m : Int) := by split <;> omega
      obtain ⟨e, he⟩ : ∃ e, e = k + m := ⟨_, rfl⟩
      have hwe : wrap64 ((k : Int) + (m : Int)) = (e : Int) := by unfold wrap64; omega
      have hke : k ≤ e := by omega
      have hec : e ≤ cap := by omega
      have hem : e - k = m := by omega
      have HE := Lib.hid he
      clear he hm
      gi_wp2
      gi_region
      all_goals
        gi_wp2
        refine hR.mono ?_
        rintro e3 W3 (⟨rfl, hJ3, hk3⟩ | ⟨rfl, hJx3, hk3⟩)
        · have hb3 : W3.cell? ⟨Bs + 1, 0, none⟩ = some (.int .i64 32) := by rw [cell_of_row _ _ 0 _ _ _ (hk3.block _ _ (HN.out.block _ _ hBn (hYb _).2) (hYb _).2)]; rfl
          have hw3 : wrap64 ((k : Int) + 32) = (k : Int) + 32 := by unfold wrap64; omega
          gi_wp2
          go_roundw
          case rel => exact ⟨pre ++ [(q + k, m)], by have := HK.out; simp; omega, by have := HK.out; simp; omega, hJ3, (HN.out.drewN 1).trans hk3⟩
          case measure => have := HK.out; simp [intOf]; omega
        · gi_wp2
          refine bodyPost_ret (results_none rfl _ _ _) rfl ?_
          exact ⟨⟨_, rfl⟩, .inr ⟨_, hJx3⟩⟩
    · have hki : ¬ ((32 * pre.length : Nat) : Int) < (len : Int) := by omega
      have hlen2 : pre.length = (len + 31) / 32 := by omega
      obtain ⟨k, hkk⟩ : ∃ k, k = 32 * pre.length := ⟨_, rfl⟩
      rw [← hkk] at hki ⊢
      have HK := Lib.hid hlen2
      clear hlen2 hk hkk
      gi_wp2
      go_end0
      exact ⟨⟨_, rfl⟩, .inl ⟨pre, HK.out, hJs⟩⟩
end Go.Proofs.YtmpljhfinmfnbaaDoor

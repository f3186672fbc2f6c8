/- The small object. -/
import Derived.Test.YtmpljhfinmfnbaaDoorVkm
namespace Go.Proofs.YtmpljhfinmfnbaaDoor
open Go.RowKit
set_option linter.unusedVariables false
set_option maxRecDepth 100000
def smI (i : Int) : List Ins := [⟨1, 0, 0, 0, 0, 0, 0, 1, 0⟩, ⟨4, 0, 0, 0, 0, i, 0, 0, 0⟩, ⟨3, 0, 1, 0, 0, 1 - i, 0, 0, 0⟩, ⟨7, 0, 0, 1, 0, 0, 0, 0, 0⟩, ⟨10, 0, 0, 0, 0, 0, 0, 0, 0⟩]
def smN (i : Nat) : ByteArray := ⟨#[if i = 0 then 65 else 66]⟩
def smO : Ob := ⟨[0, 0], 2, 0, 2, [⟨smN 0, smI 0⟩, ⟨smN 1, smI 1⟩]⟩
theorem smO_ok : chkO smO = (0, 0, 0) := by kernel_rfl
theorem smO_rg : rgO smO := by
  refine ⟨fun x hx => ?_, by show _ ≤ (2 : Int) ∧ (2 : Int) ≤ _; omega, by show _ ≤ (0 : Int) ∧ (0 : Int) ≤ _; omega, by show _ ≤ (2 : Int) ∧ (2 : Int) ≤ _; omega, fun c hc i hi => ?_⟩
  · simp [smO] at hx
    subst hx
    omega
  · simp [smO] at hc
    rcases hc with rfl | rfl <;> simp [smI] at hi <;> rcases hi with rfl | rfl | rfl | rfl | rfl <;> simp [rgI]
theorem smO_fit : fitO smO := by
  refine ⟨by show 2 ≤ _; omega, by show 2 ≤ _; omega, fun c hc => ?_⟩
  simp [smO] at hc
  rcases hc with rfl | rfl
  · exact ⟨by show 1 ≤ _; omega, by show 5 ≤ _; omega⟩
  · exact ⟨by show 1 ≤ _; omega, by show 5 ≤ _; omega⟩
theorem info_Core : (Tryd.prog.info? 83).map (fun i => (i.zero, i.size, i.bytes)) = some (some (.agg #[.string ⟨#[]⟩, .slice none 0 0]), 2, 40) := by kernel_rfl
def smRow (gs : List Nat) : List Value := gs.zipIdx.flatMap fun x => [.string (smN x.2), .slice (some ⟨x.1, 0, none⟩) 5 5]
/-- The small object's cores so far. -/
def SmI (w : World) (t : Nat) (v : Value) (W : World) : Prop := ∃ gs : List Nat, gs.length = t ∧ W.ownsRow w.heap.size 83 2 v t (smRow gs) ∧ (∀ (j g : Nat), gs[j]? = some g → Own W g 87 (flatI (smI j)).toArray) ∧ Own W w.heap.size 25 #[.slice none 0 0, .int .i64 0, .int .i64 0, .int .i64 0, .slice none 0 0] ∧ Below w.heap.size w W
set_option maxHeartbeats 8000000 in
theorem p_small (w : World) : Calls Tryd.prog 36 #[] w fun e w' => ∃ a1 a5 c5, e = .returned (obV smO a1 2 a5 c5) ∧ intsAt w' smO.mem a1 ∧ corsAt w' smO.cores a5 ∧ Below w.heap.size w w' := by
  have al := (Below.refl w.heap.size w).alloc (Nat.le_refl _) (.cells #[.slice none 0 0, .int .i64 0, .int .i64 0, .int .i64 0, .slice none 0 0] 25)
  have HI0 : Hid (SmI w 0 (.slice none 0 0) (w.alloc (.cells #[.slice none 0 0, .int .i64 0, .int .i64 0, .int .i64 0, .slice none 0 0] 25))) := ⟨[], rfl, World.ownsRow_nil _ _ _ _, fun j g e => by simp at e, Own.new w _ _, al⟩
  obtain ⟨W0, hW0⟩ : ∃ W, W = w.alloc (.cells #[.slice none 0 0, .int .i64 0, .int .i64 0, .int .i64 0, .slice none 0 0] 25) := ⟨_, rfl⟩
  rw [← hW0] at HI0
  have HW0 := Lib.hid hW0
  clear hW0 al
  go_enter Tryd.func36, Tryd.ntmps36
  go_upto_region 1 with fail
  rw [← HW0.out]
  clear HW0
  go_wp2_with fail
  go_loopg [1, 2] 3 (fun m' v u W => ∃ t : Nat, u = .int .i64 (t : Int) ∧ t ≤ 2 ∧ m' = 2 - t + 1 ∧ SmI w t v W)
  case atStart => exact ⟨0, rfl, Nat.zero_le _, by omega, HI0.out⟩
  case round =>
    clear HI0
    obtain ⟨t, rfl, ht, hm, gs, hgl, hrow, hcd, hor, hbl⟩ := hrel
    obtain ⟨va, vc, rfl⟩ := row_slice hrow
    have HM := Lib.hid hm
    have HX := Lib.hid (And.intro hgl (And.intro hrow (And.intro hcd (And.intro hor hbl))))
    clear hm hgl hrow hcd hor hbl
    obtain ⟨i0, hi, hz0, hz1, hz2⟩ := info_parts info_Core
    have ht3 : t = 0 ∨ t = 1 ∨ t = 2 := by omega
    rcases ht3 with rfl | rfl | rfl
    · have hb3 : Below wr.heap.size wr (((wr.alloc (.cells #[.string ⟨#[65]⟩, .string ⟨#[66]⟩] 9)).alloc (.cells #[.int .u8 1, .int .u8 0, .int .i64 0, .int .i64 0, .int .i64 0, .int .i64 0, .int .i64 0, .int .i64 1, .int .i64 0, .int .u8 4, .int .u8 0, .int .i64 0, .int .i64 0, .int .i64 0, .int .i64 0, .int .i64 0, .int .i64 0, .int .i64 0, .int .u8 3, .int .u8 0, .int .i64 1, .int .i64 0, .int .i64 0, .int .i64 1, .int .i64 0, .int .i64 0, .int .i64 0, .int .u8 7, .int .u8 0, .int .i64 0, .int .i64 1, .int .i64 0, .int .i64 0, .int .i64 0, .int .i64 0, .int .i64 0, .int .u8 10, .int .u8 0, .int .i64 0, .int .i64 0, .int .i64 0, .int .i64 0, .int .i64 0, .int .i64 0, .int .i64 0] 87)).alloc (.cells #[.string ⟨#[65]⟩, .slice (some ⟨wr.heap.size + 1, 0, none⟩) 5 5] 83)) := (((Below.refl wr.heap.size wr).alloc (Nat.le_refl _) _).alloc (by simp) _).alloc (by simp; omega) _
      have hrow3 := row_below HX.out.2.1 hb3
      have hs2 : ((wr.alloc (.cells #[.string ⟨#[65]⟩, .string ⟨#[66]⟩] 9)).alloc (.cells #[.int .u8 1, .int .u8 0, .int .i64 0, .int .i64 0, .int .i64 0, .int .i64 0, .int .i64 0, .int .i64 1, .int .i64 0, .int .u8 4, .int .u8 0, .int .i64 0, .int .i64 0, .int .i64 0, .int .i64 0, .int .i64 0, .int .i64 0, .int .i64 0, .int .u8 3, .int .u8 0, .int .i64 1, .int .i64 0, .int .i64 0, .int .i64 1, .int .i64 0, .int .i64 0, .int .i64 0, .int .u8 7, .int .u8 0, .int .i64 0, .int .i64 1, .int .i64 0, .int .i64 0, .int .i64 0, .int .i64 0, .int .i64 0, .int .u8 10, .int .u8 0, .int .i64 0, .int .i64 0, .int .i64 0, .int .i64 0, .int .i64 0, .int .i64 0, .int .i64 0] 87)).heap.size = wr.heap.size + 1 + 1 := by simp
      have hs1 : (wr.alloc (.cells #[.string ⟨#[65]⟩, .string ⟨#[66]⟩] 9)).heap.size = wr.heap.size + 1 := by simp
      have hn3 : Own (((wr.alloc (.cells #[.string ⟨#[65]⟩, .string ⟨#[66]⟩] 9)).alloc (.cells #[.int .u8 1, .int .u8 0, .int .i64 0, .int .i64 0, .int .i64 0, .int .i64 0, .int .i64 0, .int .i64 1, .int .i64 0, .int .u8 4, .int .u8 0, .int .i64 0, .int .i64 0, .int .i64 0, .int .i64 0, .int .i64 0, .int .i64 0, .int .i64 0, .int .u8 3, .int .u8 0, .int .i64 1, .int .i64 0, .int .i64 0, .int .i64 1, .int .i64 0, .int .i64 0, .int .i64 0, .int .u8 7, .int .u8 0, .int .i64 0, .int .i64 1, .int .i64 0, .int .i64 0, .int .i64 0, .int .i64 0, .int .i64 0, .int .u8 10, .int .u8 0, .int .i64 0, .int .i64 0, .int .i64 0, .int .i64 0, .int .i64 0, .int .i64 0, .int .i64 0] 87)).alloc (.cells #[.string ⟨#[65]⟩, .slice (some ⟨wr.heap.size + 1, 0, none⟩) 5 5] 83)) (wr.heap.size + 1 + 1) 83 #[.string ⟨#[65]⟩, .slice (some ⟨wr.heap.size + 1, 0, none⟩) 5 5] := by
        have h1 := Own.new ((wr.alloc (.cells #[.string ⟨#[65]⟩, .string ⟨#[66]⟩] 9)).alloc (.cells #[.int .u8 1, .int .u8 0, .int .i64 0, .int .i64 0, .int .i64 0, .int .i64 0, .int .i64 0, .int .i64 1, .int .i64 0, .int .u8 4, .int .u8 0, .int .i64 0, .int .i64 0, .int .i64 0, .int .i64 0, .int .i64 0, .int .i64 0, .int .i64 0, .int .u8 3, .int .u8 0, .int .i64 1, .int .i64 0, .int .i64 0, .int .i64 1, .int .i64 0, .int .i64 0, .int .i64 0, .int .u8 7, .int .u8 0, .int .i64 0, .int .i64 1, .int .i64 0, .int .i64 0, .int .i64 0, .int .i64 0, .int .i64 0, .int .u8 10, .int .u8 0, .int .i64 0, .int .i64 0, .int .i64 0, .int .i64 0, .int .i64 0, .int .i64 0, .int .i64 0] 87)) 83 #[.string ⟨#[65]⟩, .slice (some ⟨wr.heap.size + 1, 0, none⟩) 5 5]
        rwa [hs2] at h1
      have hc3 : Own (((wr.alloc (.cells #[.string ⟨#[65]⟩, .string ⟨#[66]⟩] 9)).alloc (.cells #[.int .u8 1, .int .u8 0, .int .i64 0, .int .i64 0, .int .i64 0, .int .i64 0, .int .i64 0, .int .i64 1, .int .i64 0, .int .u8 4, .int .u8 0, .int .i64 0, .int .i64 0, .int .i64 0, .int .i64 0, .int .i64 0, .int .i64 0, .int .i64 0, .int .u8 3, .int .u8 0, .int .i64 1, .int .i64 0, .int .i64 0, .int .i64 1, .int .i64 0, .int .i64 0, .int .i64 0, .int .u8 7, .int .u8 0, .int .i64 0, .int .i64 1, .int .i64 0, .int .i64 0, .int .i64 0, .int .i64 0, .int .i64 0, .int .u8 10, .int .u8 0, .int .i64 0, .int .i64 0, .int .i64 0, .int .i64 0, .int .i64 0, .int .i64 0, .int .i64 0] 87)).alloc (.cells #[.string ⟨#[65]⟩, .slice (some ⟨wr.heap.size + 1, 0, none⟩) 5 5] 83)) (wr.heap.size + 1) 87 #[.int .u8 1, .int .u8 0, .int .i64 0, .int .i64 0, .int .i64 0, .int .i64 0, .int .i64 0, .int .i64 1, .int .i64 0, .int .u8 4, .int .u8 0, .int .i64 0, .int .i64 0, .int .i64 0, .int .i64 0, .int .i64 0, .int .i64 0, .int .i64 0, .int .u8 3, .int .u8 0, .int .i64 1, .int .i64 0, .int .i64 0, .int .i64 1, .int .i64 0, .int .i64 0, .int .i64 0, .int .u8 7, .int .u8 0, .int .i64 0, .int .i64 1, .int .i64 0, .int .i64 0, .int .i64 0, .int .i64 0, .int .i64 0, .int .u8 10, .int .u8 0, .int .i64 0, .int .i64 0, .int .i64 0, .int .i64 0, .int .i64 0, .int .i64 0, .int .i64 0] := by
        have h1 := Own.new (wr.alloc (.cells #[.string ⟨#[65]⟩, .string ⟨#[66]⟩] 9)) 87 #[.int .u8 1, .int .u8 0, .int .i64 0, .int .i64 0, .int .i64 0, .int .i64 0, .int .i64 0, .int .i64 1, .int .i64 0, .int .u8 4, .int .u8 0, .int .i64 0, .int .i64 0, .int .i64 0, .int .i64 0, .int .i64 0, .int .i64 0, .int .i64 0, .int .u8 3, .int .u8 0, .int .i64 1, .int .i64 0, .int .i64 0, .int .i64 1, .int .i64 0, .int .i64 0, .int .i64 0, .int .u8 7, .int .u8 0, .int .i64 0, .int .i64 1, .int .i64 0, .int .i64 0, .int .i64 0, .int .i64 0, .int .i64 0, .int .u8 10, .int .u8 0, .int .i64 0, .int .i64 0, .int .i64 0, .int .i64 0, .int .i64 0, .int .i64 0, .int .i64 0]
        rw [hs1] at h1
        exact h1.alloc _
      have hcell : ∀ (j : Nat) (u : Value), ([.string ⟨#[65]⟩, .slice (some ⟨wr.heap.size + 1, 0, none⟩) 5 5] : List Value)[j]? = some u → (((wr.alloc (.cells #[.string ⟨#[65]⟩, .string ⟨#[66]⟩] 9)).alloc (.cells #[.int .u8 1, .int .u8 0, .int .i64 0, .int .i64 0, .int .i64 0, .int .i64 0, .int .i64 0, .int .i64 1, .int .i64 0, .int .u8 4, .int .u8 0, .int .i64 0, .int .i64 0, .int .i64 0, .int .i64 0, .int .i64 0, .int .i64 0, .int .i64 0, .int .u8 3, .int .u8 0, .int .i64 1, .int .i64 0, .int .i64 0, .int .i64 1, .int .i64 0, .int .i64 0, .int .i64 0, .int .u8 7, .int .u8 0, .int .i64 0, .int .i64 1, .int .i64 0, .int .i64 0, .int .i64 0, .int .i64 0, .int .i64 0, .int .u8 10, .int .u8 0, .int .i64 0, .int .i64 0, .int .i64 0, .int .i64 0, .int .i64 0, .int .i64 0, .int .i64 0] 87)).alloc (.cells #[.string ⟨#[65]⟩, .slice (some ⟨wr.heap.size + 1, 0, none⟩) 5 5] 83)).cell? ((⟨wr.heap.size + 1 + 1, 0, none⟩ : Addr).add j) = some u := fun j u hj => by
        rw [addr_addV, Nat.zero_add]
        exact row_cellsO hn3 j u (by simpa using hj)
      have HB3 := Lib.hid (And.intro hb3 (And.intro hrow3 hc3))
      have hwn : w.heap.size ≤ wr.heap.size := HX.out.2.2.2.2.size
      clear hb3 hn3 hc3
      go_wp2_with (at_builtin; refine wpList_append_own _ rfl _ _ 23 rfl w.heap.size 83 i0 _ 2 40 Tryd.underlying23 hi hz0 hz1 hz2 rfl (by decide) _ 0 (smRow gs) rfl hrow3 ⟨wr.heap.size + 1 + 1, 0, none⟩ 1 1 [.string ⟨#[65]⟩, .slice (some ⟨wr.heap.size + 1, 0, none⟩) 5 5] rfl rfl hcell (by simp [Value.oneCell']) (by simp only [maxLen]; omega) (by omega) (by simp; omega) ?_; intro v9 W9 hown hgrow _)
      have HZ : Hid (SmI w 1 v9 W9) := by
        obtain ⟨h1, h2, h3, h4, h5⟩ := HX.out
        obtain ⟨hb3, hrow3, hc3⟩ := HB3.out
        have st9 : ∀ {k : Nat} {T : TypeId} {q : Array Value}, Own (((wr.alloc (.cells #[.string ⟨#[65]⟩, .string ⟨#[66]⟩] 9)).alloc (.cells #[.int .u8 1, .int .u8 0, .int .i64 0, .int .i64 0, .int .i64 0, .int .i64 0, .int .i64 0, .int .i64 1, .int .i64 0, .int .u8 4, .int .u8 0, .int .i64 0, .int .i64 0, .int .i64 0, .int .i64 0, .int .i64 0, .int .i64 0, .int .i64 0, .int .u8 3, .int .u8 0, .int .i64 1, .int .i64 0, .int .i64 0, .int .i64 1, .int .i64 0, .int .i64 0, .int .i64 0, .int .u8 7, .int .u8 0, .int .i64 0, .int .i64 1, .int .i64 0, .int .i64 0, .int .i64 0, .int .i64 0, .int .i64 0, .int .u8 10, .int .u8 0, .int .i64 0, .int .i64 0, .int .i64 0, .int .i64 0, .int .i64 0, .int .i64 0, .int .i64 0] 87)).alloc (.cells #[.string ⟨#[65]⟩, .slice (some ⟨wr.heap.size + 1, 0, none⟩) 5 5] 83)) k T q → (83 == T) = false → Own W9 k T q := fun h1 ht => (hgrow.block _ h1.lt (fun e => row_apart hrow3 h1 ht e.symm)).trans h1
        refine ⟨gs ++ [wr.heap.size + 1], by rw [List.length_append, h1]; rfl, ?_, fun j g e => ?_, st9 (h4.below hb3) (by decide), ?_⟩
        · have e : smRow (gs ++ [wr.heap.size + 1]) = smRow gs ++ [.string ⟨#[65]⟩, .slice (some ⟨wr.heap.size + 1, 0, none⟩) 5 5] := by
            unfold smRow
            rw [List.zipIdx_append, List.flatMap_append, h1]
            rfl
          rw [e]
          exact hown
        · by_cases hj : j < gs.length
          · rw [List.getElem?_append_left hj] at e
            exact st9 ((h3 j g e).below hb3) (by decide)
          · have hj2 : j = 0 := by
              have := (List.getElem?_eq_some_iff.1 e).1
              simp at this
              omega
            subst hj2
            rw [List.getElem?_append_right (by omega), h1, Nat.sub_self] at e
            injection e with e
            subst e
            exact st9 hc3 (by decide)
        · exact (h5.trans (hb3.mono h5.size)).grown hgrow (Nat.le_trans h5.size hb3.size) fun k e => (row_base h2 e).1
      clear hown hgrow hrow3 hcell
      go_wp2_with fail
      go_roundg (2 - 1 + 1)
      case measure => have := HM.out; omega
      case rel => exact ⟨1, by simp, by omega, rfl, HZ.out⟩
    · have hb3 : Below wr.heap.size wr (((wr.alloc (.cells #[.string ⟨#[65]⟩, .string ⟨#[66]⟩] 9)).alloc (.cells #[.int .u8 1, .int .u8 0, .int .i64 0, .int .i64 0, .int .i64 0, .int .i64 0, .int .i64 0, .int .i64 1, .int .i64 0, .int .u8 4, .int .u8 0, .int .i64 0, .int .i64 0, .int .i64 0, .int .i64 1, .int .i64 0, .int .i64 0, .int .i64 0, .int .u8 3, .int .u8 0, .int .i64 1, .int .i64 0, .int .i64 0, .int .i64 0, .int .i64 0, .int .i64 0, .int .i64 0, .int .u8 7, .int .u8 0, .int .i64 0, .int .i64 1, .int .i64 0, .int .i64 0, .int .i64 0, .int .i64 0, .int .i64 0, .int .u8 10, .int .u8 0, .int .i64 0, .int .i64 0, .int .i64 0, .int .i64 0, .int .i64 0, .int .i64 0, .int .i64 0] 87)).alloc (.cells #[.string ⟨#[66]⟩, .slice (some ⟨wr.heap.size + 1, 0, none⟩) 5 5] 83)) := (((Below.refl wr.heap.size wr).alloc (Nat.le_refl _) _).alloc (by simp) _).alloc (by simp; omega) _
      have hrow3 := row_below HX.out.2.1 hb3
      have hs2 : ((wr.alloc (.cells #[.string ⟨#[65]⟩, .string ⟨#[66]⟩] 9)).alloc (.cells #[.int .u8 1, .int .u8 0, .int .i64 0, .int .i64 0, .int .i64 0, .int .i64 0, .int .i64 0, .int .i64 1, .int .i64 0, .int .u8 4, .int .u8 0, .int .i64 0, .int .i64 0, .int .i64 0, .int .i64 1, .int .i64 0, .int .i64 0, .int .i64 0, .int .u8 3, .int .u8 0, .int .i64 1, .int .i64 0, .int .i64 0, .int .i64 0, .int .i64 0, .int .i64 0, .int .i64 0, .int .u8 7, .int .u8 0, .int .i64 0, .int .i64 1, .int .i64 0, .int .i64 0, .int .i64 0, .int .i64 0, .int .i64 0, .int .u8 10, .int .u8 0, .int .i64 0, .int .i64 0, .int .i64 0, .int .i64 0, .int .i64 0, .int .i64 0, .int .i64 0] 87)).heap.size = wr.heap.size + 1 + 1 := by simp
      have hs1 : (wr.alloc (.cells #[.string ⟨#[65]⟩, .string ⟨#[66]⟩] 9)).heap.size = wr.heap.size + 1 := by simp
      have hn3 : Own (((wr.alloc (.cells #[.string ⟨#[65]⟩, .string ⟨#[66]⟩] 9)).alloc (.cells #[.int .u8 1, .int .u8 0, .int .i64 0, .int .i64 0, .int .i64 0, .int .i64 0, .int .i64 0, .int .i64 1, .int .i64 0, .int .u8 4, .int .u8 0, .int .i64 0, .int .i64 0, .int .i64 0, .int .i64 1, .int .i64 0, .int .i64 0, .int .i64 0, .int .u8 3, .int .u8 0, .int .i64 1, .int .i64 0, .int .i64 0, .int .i64 0, .int .i64 0, .int .i64 0, .int .i64 0, .int .u8 7, .int .u8 0, .int .i64 0, .int .i64 1, .int .i64 0, .int .i64 0, .int .i64 0, .int .i64 0, .int .i64 0, .int .u8 10, .int .u8 0, .int .i64 0, .int .i64 0, .int .i64 0, .int .i64 0, .int .i64 0, .int .i64 0, .int .i64 0] 87)).alloc (.cells #[.string ⟨#[66]⟩, .slice (some ⟨wr.heap.size + 1, 0, none⟩) 5 5] 83)) (wr.heap.size + 1 + 1) 83 #[.string ⟨#[66]⟩, .slice (some ⟨wr.heap.size + 1, 0, none⟩) 5 5] := by
        have h1 := Own.new ((wr.alloc (.cells #[.string ⟨#[65]⟩, .string ⟨#[66]⟩] 9)).alloc (.cells #[.int .u8 1, .int .u8 0, .int .i64 0, .int .i64 0, .int .i64 0, .int .i64 0, .int .i64 0, .int .i64 1, .int .i64 0, .int .u8 4, .int .u8 0, .int .i64 0, .int .i64 0, .int .i64 0, .int .i64 1, .int .i64 0, .int .i64 0, .int .i64 0, .int .u8 3, .int .u8 0, .int .i64 1, .int .i64 0, .int .i64 0, .int .i64 0, .int .i64 0, .int .i64 0, .int .i64 0, .int .u8 7, .int .u8 0, .int .i64 0, .int .i64 1, .int .i64 0, .int .i64 0, .int .i64 0, .int .i64 0, .int .i64 0, .int .u8 10, .int .u8 0, .int .i64 0, .int .i64 0, .int .i64 0, .int .i64 0, .int .i64 0, .int .i64 0, .int .i64 0] 87)) 83 #[.string ⟨#[66]⟩, .slice (some ⟨wr.heap.size + 1, 0, none⟩) 5 5]
        rwa [hs2] at h1
      have hc3 : Own (((wr.alloc (.cells #[.string ⟨#[65]⟩, .string ⟨#[66]⟩] 9)).alloc (.cells #[.int .u8 1, .int .u8 0, .int .i64 0, .int .i64 0, .int .i64 0, .int .i64 0, .int .i64 0, .int .i64 1, .int .i64 0, .int .u8 4, .int .u8 0, .int .i64 0, .int .i64 0, .int .i64 0, .int .i64 1, .int .i64 0, .int .i64 0, .int .i64 0, .int .u8 3, .int .u8 0, .int .i64 1, .int .i64 0, .int .i64 0, .int .i64 0, .int .i64 0, .int .i64 0, .int .i64 0, .int .u8 7, .int .u8 0, .int .i64 0, .int .i64 1, .int .i64 0, .int .i64 0, .int .i64 0, .int .i64 0, .int .i64 0, .int .u8 10, .int .u8 0, .int .i64 0, .int .i64 0, .int .i64 0, .int .i64 0, .int .i64 0, .int .i64 0, .int .i64 0] 87)).alloc (.cells #[.string ⟨#[66]⟩, .slice (some ⟨wr.heap.size + 1, 0, none⟩) 5 5] 83)) (wr.heap.size + 1) 87 #[.int .u8 1, .int .u8 0, .int .i64 0, .int .i64 0, .int .i64 0, .int .i64 0, .int .i64 0, .int .i64 1, .int .i64 0, .int .u8 4, .int .u8 0, .int .i64 0, .int .i64 0, .int .i64 0, .int .i64 1, .int .i64 0, .int .i64 0, .int .i64 0, .int .u8 3, .int .u8 0, .int .i64 1, .int .i64 0, .int .i64 0, .int .i64 0, .int .i64 0, .int .i64 0, .int .i64 0, .int .u8 7, .int .u8 0, .int .i64 0, .int .i64 1, .int .i64 0, .int .i64 0, .int .i64 0, .int .i64 0, .int .i64 0, .int .u8 10, .int .u8 0, .int .i64 0, .int .i64 0, .int .i64 0, .int .i64 0, .int .i64 0, .int .i64 0, .int .i64 0] := by
        have h1 := Own.new (wr.alloc (.cells #[.string ⟨#[65]⟩, .string ⟨#[66]⟩] 9)) 87 #[.int .u8 1, .int .u8 0, .int .i64 0, .int .i64 0, .int .i64 0, .int .i64 0, .int .i64 0, .int .i64 1, .int .i64 0, .int .u8 4, .int .u8 0, .int .i64 0, .int .i64 0, .int .i64 0, .int .i64 1, .int .i64 0, .int .i64 0, .int .i64 0, .int .u8 3, .int .u8 0, .int .i64 1, .int .i64 0, .int .i64 0, .int .i64 0, .int .i64 0, .int .i64 0, .int .i64 0, .int .u8 7, .int .u8 0, .int .i64 0, .int .i64 1, .int .i64 0, .int .i64 0, .int .i64 0, .int .i64 0, .int .i64 0, .int .u8 10, .int .u8 0, .int .i64 0, .int .i64 0, .int .i64 0, .int .i64 0, .int .i64 0, .int .i64 0, .int .i64 0]
        rw [hs1] at h1
        exact h1.alloc _
      have hcell : ∀ (j : Nat) (u : Value), ([.string ⟨#[66]⟩, .slice (some ⟨wr.heap.size + 1, 0, none⟩) 5 5] : List Value)[j]? = some u → (((wr.alloc (.cells #[.string ⟨#[65]⟩, .string ⟨#[66]⟩] 9)).alloc (.cells #[.int .u8 1, .int .u8 0, .int .i64 0, .int .i64 0, .int .i64 0, .int .i64 0, .int .i64 0, .int .i64 1, .int .i64 0, .int .u8 4, .int .u8 0, .int .i64 0, .int .i64 0, .int .i64 0, .int .i64 1, .int .i64 0, .int .i64 0, .int .i64 0, .int .u8 3, .int .u8 0, .int .i64 1, .int .i64 0, .int .i64 0, .int .i64 0, .int .i64 0, .int .i64 0, .int .i64 0, .int .u8 7, .int .u8 0, .int .i64 0, .int .i64 1, .int .i64 0, .int .i64 0, .int .i64 0, .int .i64 0, .int .i64 0, .int .u8 10, .int .u8 0, .int .i64 0, .int .i64 0, .int .i64 0, .int .i64 0, .int .i64 0, .int .i64 0, .int .i64 0] 87)).alloc (.cells #[.string ⟨#[66]⟩, .slice (some ⟨wr.heap.size + 1, 0, none⟩) 5 5] 83)).cell? ((⟨wr.heap.size + 1 + 1, 0, none⟩ : Addr).add j) = some u := fun j u hj => by
        rw [addr_addV, Nat.zero_add]
        exact row_cellsO hn3 j u (by simpa using hj)
      have HB3 := Lib.hid (And.intro hb3 (And.intro hrow3 hc3))
      have hwn : w.heap.size ≤ wr.heap.size := HX.out.2.2.2.2.size
      clear hb3 hn3 hc3
      go_wp2_with (at_builtin; refine wpList_append_own _ rfl _ _ 23 rfl w.heap.size 83 i0 _ 2 40 Tryd.underlying23 hi hz0 hz1 hz2 rfl (by decide) _ 1 (smRow gs) rfl hrow3 ⟨wr.heap.size + 1 + 1, 0, none⟩ 1 1 [.string ⟨#[66]⟩, .slice (some ⟨wr.heap.size + 1, 0, none⟩) 5 5] rfl rfl hcell (by simp [Value.oneCell']) (by simp only [maxLen]; omega) (by omega) (by simp; omega) ?_; intro v9 W9 hown hgrow _)
      have HZ : Hid (SmI w 2 v9 W9) := by
        obtain ⟨h1, h2, h3, h4, h5⟩ := HX.out
        obtain ⟨hb3, hrow3, hc3⟩ := HB3.out
        have st9 : ∀ {k : Nat} {T : TypeId} {q : Array Value}, Own (((wr.alloc (.cells #[.string ⟨#[65]⟩, .string ⟨#[66]⟩] 9)).alloc (.cells #[.int .u8 1, .int .u8 0, .int .i64 0, .int .i64 0, .int .i64 0, .int .i64 0, .int .i64 0, .int .i64 1, .int .i64 0, .int .u8 4, .int .u8 0, .int .i64 0, .int .i64 0, .int .i64 0, .int .i64 1, .int .i64 0, .int .i64 0, .int .i64 0, .int .u8 3, .int .u8 0, .int .i64 1, .int .i64 0, .int .i64 0, .int .i64 0, .int .i64 0, .int .i64 0, .int .i64 0, .int .u8 7, .int .u8 0, .int .i64 0, .int .i64 1, .int .i64 0, .int .i64 0, .int .i64 0, .int .i64 0, .int .i64 0, .int .u8 10, .int .u8 0, .int .i64 0, .int .i64 0, .int .i64 0, .int .i64 0, .int .i64 0, .int .i64 0, .int .i64 0] 87)).alloc (.cells #[.string ⟨#[66]⟩, .slice (some ⟨wr.heap.size + 1, 0, none⟩) 5 5] 83)) k T q → (83 == T) = false → Own W9 k T q := fun h1 ht => (hgrow.block _ h1.lt (fun e => row_apart hrow3 h1 ht e.symm)).trans h1
        refine ⟨gs ++ [wr.heap.size + 1], by rw [List.length_append, h1]; rfl, ?_, fun j g e => ?_, st9 (h4.below hb3) (by decide), ?_⟩
        · have e : smRow (gs ++ [wr.heap.size + 1]) = smRow gs ++ [.string ⟨#[66]⟩, .slice (some ⟨wr.heap.size + 1, 0, none⟩) 5 5] := by
            unfold smRow
            rw [List.zipIdx_append, List.flatMap_append, h1]
            rfl
          rw [e]
          exact hown
        · by_cases hj : j < gs.length
          · rw [List.getElem?_append_left hj] at e
            exact st9 ((h3 j g e).below hb3) (by decide)
          · have hj2 : j = 1 := by
              have := (List.getElem?_eq_some_iff.1 e).1
              simp at this
              omega
            subst hj2
            rw [List.getElem?_append_right (by omega), h1, Nat.sub_self] at e
            injection e with e
            subst e
            exact st9 hc3 (by decide)
        · exact (h5.trans (hb3.mono h5.size)).grown hgrow (Nat.le_trans h5.size hb3.size) fun k e => (row_base h2 e).1
      clear hown hgrow hrow3 hcell
      go_wp2_with fail
      go_roundg (2 - 2 + 1)
      case measure => have := HM.out; omega
      case rel => exact ⟨2, by simp, by omega, rfl, HZ.out⟩
    · have al := (Below.refl wr.heap.size wr).alloc (Nat.le_refl _) (.cells #[.int .i64 0, .int .i64 0] 2)
      have OO := HX.out.2.2.2.1.below al
      have HA := Lib.hid al
      clear al
      go_wp2_with (refine st rowO rfl rfl OO rfl rfl (by rfl) (by rfl) (by kernel_rfl) ?_)
      obtain ⟨h1, h2, h3, h4, h5⟩ := HX.out
      have al := HA.out
      match gs, h1, h2, h3 with
      | [g0, g1], _, h2, h3 =>
      obtain ⟨gc, cap, e, hgb, hcell⟩ := row_at h2 (by decide)
      injection e with e1 e2 e3
      subst e1 e3
      have hnw : Own (wr.alloc (.cells #[.int .i64 0, .int .i64 0] 2)) wr.heap.size 2 #[.int .i64 0, .int .i64 0] := Own.new wr _ _
      have hW : ∀ k, k < wr.heap.size → k ≠ w.heap.size → ∀ row, ((wr.alloc (.cells #[.int .i64 0, .int .i64 0] 2)).setRow w.heap.size row).heap[k]? = wr.heap[k]? := fun k hk hne row => (setRow_other row hne).trans (al.block k hk)
      have hwr : w.heap.size < wr.heap.size := h4.lt
      obtain ⟨_, cur, hgc⟩ := row_base h2 (k := gc) rfl
      have hgw : gc ≠ w.heap.size := own_unlike hgc h4 (by decide)
      refine p_ret rowO rfl (OO.row _) rfl rfl rfl ⟨some ⟨wr.heap.size, 0, none⟩, some ⟨gc, 0, none⟩, vc, rfl, ?_, ?_, Below.of_row (h5.trans (al.mono h5.size)) (Nat.le_refl _) _⟩
      · refine .inr ⟨wr.heap.size, 0, rfl, fun j x hj => ?_⟩
        rw [Nat.zero_add]
        refine row_cellsO (cs := #[.int .i64 0, .int .i64 0]) ((setRow_other _ (by omega)).trans hnw) j _ ?_
        match j, hj with
        | 0, hj => injection hj with hj; subst hj; rfl
        | 1, hj => injection hj with hj; subst hj; rfl
      · refine .inr ⟨gc, 0, rfl, fun j x hj => ?_⟩
        have hst : ∀ (i : Nat) (u : Value), wr.cell? ⟨gc, i, none⟩ = some u → ∀ row, ((wr.alloc (.cells #[.int .i64 0, .int .i64 0] 2)).setRow w.heap.size row).cell? ⟨gc, i, none⟩ = some u := fun i u hu row => by
          unfold World.cell? at hu ⊢
          rw [hW gc (lt_of_at (a := ⟨gc, i, none⟩) (w := wr) hu) hgw row]
          exact hu
        have hins : ∀ (i g : Nat), [g0, g1][i]? = some g → ∀ row, insAt ((wr.alloc (.cells #[.int .i64 0, .int .i64 0] 2)).setRow w.heap.size row) (smI i) (some ⟨g, 0, none⟩) := fun i g hg row => .inr ⟨g, 0, rfl, fun k y hy m u hm => by
          have h7 := h3 i g hg
          have h8 := (hW g h7.lt (own_unlike h7 h4 (by decide)) row).trans h7
          refine row_cellsO (cs := (flatI (smI i)).toArray) h8 _ _ ?_
          rw [Nat.zero_add, List.getElem?_toArray]
          exact flatI_get _ _ _ hy m u hm⟩
        rw [Nat.zero_add]
        match j, hj with
        | 0, hj =>
          injection hj with hj
          subst hj
          exact ⟨hst _ _ (hcell 0 _ rfl) _, some ⟨g0, 0, none⟩, 5, hst _ _ (hcell 1 _ rfl) _, hins 0 g0 rfl _⟩
        | 1, hj =>
          injection hj with hj
          subst hj
          exact ⟨hst _ _ (hcell 2 _ rfl) _, some ⟨g1, 0, none⟩, 5, hst _ _ (hcell 3 _ rfl) _, hins 1 g1 rfl _⟩
end Go.Proofs.YtmpljhfinmfnbaaDoor

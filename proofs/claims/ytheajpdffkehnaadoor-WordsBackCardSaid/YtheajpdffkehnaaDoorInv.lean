/- Words: each call by one contract that hands on what the listed variables hold and that nothing old has changed. -/
import Derived.Test.YtheajpdffkehnaaDoorLives
namespace Go.Proofs.YtheajpdffkehnaaDoor
open Go.RowKit
set_option linter.unusedVariables false

/-- Behind some calls that began in w0. -/
structure Inv (w0 w : World) : Prop where
  tabs : Tabs w
  below : Below w0.heap.size w0 w
theorem Inv.start {w : World} (T : Tabs w) : Inv w w := ⟨T, Below.refl _ _⟩
theorem Inv.next {w0 w w' : World} (I : Inv w0 w) (hb : Below w.heap.size w w') : Inv w0 w' :=
  ⟨I.tabs.below (Nat.le_refl _) hb, I.below.trans (hb.mono I.below.size)⟩
theorem lives_i {w0 w : World} (I : Inv w0 w) : Calls Tryd.prog 14 #[] w fun e w' => e = .returned (.bool true) ∧ Inv w0 w' :=
  (lives_any w I.tabs).mono fun _ _ ⟨he, hb⟩ => ⟨he, I.next hb⟩
theorem do_i {w0 w : World} (o a b : Int) (h1 : 1 ≤ o) (h2 : o ≤ 16) (I : Inv w0 w) : Calls Tryd.prog 29 #[.int .u8 o, .int .i64 a, .int .i64 b] w fun e w' => e = .returned (.int .i64 (bin o a b)) ∧ Inv w0 w' :=
  (dolaw_any o a b h1 h2 w I.tabs).mono fun _ _ ⟨he, hb⟩ => ⟨he, I.next hb⟩
theorem minus_i {w0 w : World} (a : Int) (I : Inv w0 w) : Calls Tryd.prog 30 #[.int .i64 a] w fun e w' => e = .returned (.int .i64 (wrap64 (-a))) ∧ Inv w0 w' :=
  (minuslaw_any a w I.tabs).mono fun _ _ ⟨he, hb⟩ => ⟨he, I.next hb⟩
theorem i64_bd {x : Int} (h : (Lit.int .i64 x).wf = true) : -9223372036854775808 ≤ x ∧ x ≤ 9223372036854775807 := by
  simp [Lit.wf, IntKind.min, IntKind.max, IntKind.signed, IntKind.bits] at h; omega
theorem u8_bd {x : Int} (h : (Lit.int .u8 x).wf = true) : 0 ≤ x ∧ x ≤ 255 := by
  simp [Lit.wf, IntKind.min, IntKind.max, IntKind.signed, IntKind.bits] at h; omega
end Go.Proofs.YtheajpdffkehnaaDoor

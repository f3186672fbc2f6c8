/- The proof, part 6: texts that belong together, in one. -/
import Derived.Test.YtjpmdafaaonpoaaDoorME
import Derived.Lib.AppendStr
import Derived.Lib.BufferRead
import Derived.ChangeArms
import Derived.SizedLaws
import Derived.Carry
import Derived.ChangeSame
import Derived.WideShapes
import Derived.ChangeSlices
namespace Go.Proofs.YtjpmdafaaonpoaaDoor
open Go.RowKit
set_option linter.unusedVariables false
/-- Lists compared, item by item. -/
def sameBy {α : Type} (f : α → α → Bool) : List α → List α → Bool
  | [], [] => true
  | x :: r, y :: s => f x y && sameBy f r s
  | _, _ => false
theorem sameBy_len {α : Type} {f : α → α → Bool} : ∀ (l m : List α), sameBy f l m = true → l.length = m.length
  | [], [], _ => rfl
  | [], _ :: _, h => by simp [sameBy] at h
  | _ :: _, [], h => by simp [sameBy] at h
  | x :: r, y :: s, h => by
    simp only [sameBy, Bool.and_eq_true] at h
    have := sameBy_len r s h.2
    simp [this]
theorem sameBy_ne {α : Type} {f : α → α → Bool} {l m : List α} (h : l.length ≠ m.length) : sameBy f l m = false := by
  cases hs : sameBy f l m with
  | false => rfl
  | true => exact absurd (sameBy_len l m hs) h
theorem sameBy_step {α : Type} {f : α → α → Bool} {l m : List α} {i : Nat} (hl : i < l.length) (hm : i < m.length) : sameBy f (l.drop i) (m.drop i) = (f l[i] m[i] && sameBy f (l.drop (i + 1)) (m.drop (i + 1))) := by
  rw [List.drop_eq_getElem_cons hl, List.drop_eq_getElem_cons hm]
  rfl
theorem sameBy_end {α : Type} {f : α → α → Bool} {l m : List α} {i : Nat} (hl : l.length ≤ i) (hm : m.length ≤ i) : sameBy f (l.drop i) (m.drop i) = true := by
  rw [List.drop_of_length_le hl, List.drop_of_length_le hm]
  rfl
theorem stsAt_below {w w' : World} {l : List St} {a : Option Addr} (h : stsAt (fun _ => True) w l a) (hb : Below w.heap.size w w') : stsAt (fun _ => True) w' l a := by
  have h := stsAt_in h
  exact stsAt_stays (R := fun b => True ∧ b < w.heap.size) (fun b o v hb2 hv => by rw [← hv]; exact hb.cell (p := ⟨b, o, none⟩) hb2.2) (fun _ _ => trivial) h
theorem dcsAt_below {w w' : World} {l : List Dc} {a : Option Addr} (h : dcsAt (fun _ => True) w l a) (hb : Below w.heap.size w w') : dcsAt (fun _ => True) w' l a := by
  have h := dcsAt_in h
  exact dcsAt_stays (R := fun b => True ∧ b < w.heap.size) (fun b o v hb2 hv => by rw [← hv]; exact hb.cell (p := ⟨b, o, none⟩) hb2.2) (fun _ _ => trivial) h
theorem thsAt_in {R : Nat → Prop} {w : World} {l : List Th} {a : Option Addr} (h : thsAt R w l a) : thsAt (fun b => R b ∧ b < w.heap.size) w l a := by
  rcases h with h | ⟨g, q, rfl, hg, hi⟩
  · exact .inl h
  · cases l with
    | nil => exact .inl rfl
    | cons t r =>
      refine .inr ⟨g, q, rfl, ⟨hg, cell_lt hi.1.1⟩, ?_⟩
      have key : ∀ (l : List Th) (q : Nat), thsIn R w l g q → thsIn (fun b => R b ∧ b < w.heap.size) w l g q := by
        intro l
        induction l with
        | nil => intro q _; exact trivial
        | cons x s ih =>
          intro q h
          obtain ⟨⟨h1, ⟨a1, c1, h2, h3⟩, ⟨a2, c2, h4, h5⟩, h6⟩, h7⟩ := h
          exact ⟨⟨h1, ⟨a1, c1, h2, dcsAt_in h3⟩, ⟨a2, c2, h4, stsAt_in h5⟩, h6⟩, ih _ h7⟩
      exact key _ _ hi
theorem thsAt_below {w w' : World} {l : List Th} {a : Option Addr} (h : thsAt (fun _ => True) w l a) (hb : Below w.heap.size w w') : thsAt (fun _ => True) w' l a := by
  have h := thsAt_in h
  exact thsAt_stays (R := fun b => True ∧ b < w.heap.size) (fun b o v hb2 hv => by rw [← hv]; exact hb.cell (p := ⟨b, o, none⟩) hb2.2) (fun _ _ => trivial) h
theorem stsIn_got {R : Nat → Prop} {w : World} {l : List St} {b off : Nat} (i : Nat) (x : St) (h : stsIn R w l b off) (hx : l[i]? = some x) :
    w.cell? ⟨b, off + i * 7, none⟩ = some (.int .u8 x.kind) ∧ w.cell? ⟨b, off + i * 7 + 1, none⟩ = some (.string x.name) ∧ w.cell? ⟨b, off + i * 7 + 2, none⟩ = some (.string x.other) ∧
    (∃ a cap, w.cell? ⟨b, off + i * 7 + 3, none⟩ = some (.slice a x.e.length cap) ∧ exsAt R w x.e a) ∧ (∃ a cap, w.cell? ⟨b, off + i * 7 + 4, none⟩ = some (.slice a x.body.length cap) ∧ stsAt R w x.body a) ∧
    (∃ a cap, w.cell? ⟨b, off + i * 7 + 5, none⟩ = some (.slice a x.els.length cap) ∧ stsAt R w x.els a) ∧ w.cell? ⟨b, off + i * 7 + 6, none⟩ = some (.int .i64 x.pos) := by
  have h := stsIn_get i x h hx
  cases x
  exact h
def dA (w : World) (x : Dc) (v : Value) : Prop := v = .agg #[.string x.name, .int .i64 x.wd, .int .i64 x.pos]
def sA (w : World) (x : St) (v : Value) : Prop := ∃ ea ec bda bdc ela elc, v = .agg #[.int .u8 x.kind, .string x.name, .string x.other, .slice ea x.e.length ec, .slice bda x.body.length bdc, .slice ela x.els.length elc, .int .i64 x.pos] ∧ exsAt (fun _ => True) w x.e ea ∧ stsAt (fun _ => True) w x.body bda ∧ stsAt (fun _ => True) w x.els ela
def tA (w : World) (x : Th) (v : Value) : Prop := ∃ loa loc bda bdc, v = .agg #[.string x.name, .slice loa x.locals.length loc, .slice bda x.body.length bdc, .int .i64 x.pos] ∧ dcsAt (fun _ => True) w x.locals loa ∧ stsAt (fun _ => True) w x.body bda
set_option maxRecDepth 100000 in
set_option maxHeartbeats 4000000 in
theorem equal_d {f : Dc → Dc → Bool} {l : List Dc} (HI : ∀ x ∈ l, ∀ (y : Dc) (v u : Value) (w : World), dA w x v → dA w y u → Calls Tryd.prog 30 #[v, u] w fun e' w' => e' = .returned (.bool (f x y)) ∧ Below w.heap.size w w') {m : List Dc} {a b : Option Addr} {c1 c2 : Nat} {w : World} (hl : l.length ≤ 65536) (h1 : dcsAt (fun _ => True) w l a) (h2 : dcsAt (fun _ => True) w m b) :
    Calls Tryd.prog 29 #[.slice a l.length c1, .slice b m.length c2, .func (.func 30) #[] #[]] w fun e w' => e = .returned (.bool (sameBy f l m)) ∧ Below w.heap.size w w' := by
  by_cases hne : l.length = m.length
  · obtain ⟨R, hR⟩ : ∃ R, R = sameBy f l m := ⟨_, rfl⟩
    rw [← hR]
    have HRR := Lib.hid hR
    have HI := Lib.hid HI
    have HL := Lib.hid hl
    have HLM := Lib.hid hne
    have E1 := Lib.hid h1
    have E2 := Lib.hid h2
    rw [← hne]
    obtain ⟨n, hn⟩ : ∃ n, n = l.length := ⟨_, rfl⟩
    rw [← hn]
    have HN := Lib.hid hn
    have hn6 : n ≤ 65536 := by omega
    clear hl hne h1 h2 hR hn
    go_enter Tryd.func29, Tryd.ntmps29
    go_wp2_with fail
    go_loopg [17] (n + 1) (fun m' u W => ∃ i : Nat, u = .int .i64 (i : Int) ∧ i ≤ n ∧ m' = n - i + 1 ∧ sameBy f (l.drop i) (m.drop i) = R ∧ Below w.heap.size w W)
    case atStart => exact ⟨0, rfl, Nat.zero_le _, by omega, HRR.out.symm, Below.refl _ w⟩
    case round =>
      obtain ⟨i, rfl, hi, hm, hR, hb⟩ := hrel
      have HB := Lib.hid hb
      have HRI := Lib.hid hR
      have HM := Lib.hid hm
      clear hb hR hm
      by_cases hin : i < n
      · have HIN := Lib.hid hin
        have il : i < l.length := by have := HN.out; omega
        have im : i < m.length := by have := HLM.out; omega
        have g1 : l[i]? = some l[i] := List.getElem?_eq_getElem il
        have g2 : m[i]? = some m[i] := List.getElem?_eq_getElem im
        have hmem : l[i] ∈ l := List.getElem_mem il
        have hst := sameBy_step (f := f) il im
        generalize l[i] = x at g1 hst hmem
        generalize m[i] = y at g2 hst
        have HX := Lib.hid (HI.out x hmem)
        rcases E1.out with e | ⟨g, q, rfl, _, e1⟩
        · cases l with
          | nil => simp at il
          | cons => cases e
        rcases E2.out with e | ⟨g', q', rfl, _, e2⟩
        · cases m with
          | nil => simp at im
          | cons => cases e
        have x1 := dcsIn_get i x e1 g1
        have y1 := dcsIn_get i y e2 g2
        have HST := Lib.hid (HRI.out.symm.trans hst)
        obtain ⟨a0, a1, a2⟩ := x1
        obtain ⟨b0, b1, b2⟩ := y1
        have la := lt_of_at a0
        have lb := lt_of_at b0
        simp only at la lb
        have BX := HB.out
        have a0 := (BX.cell (p := ⟨g, q + i * 3, none⟩) la).trans a0
        have a1 := (BX.cell (p := ⟨g, q + i * 3 + 1, none⟩) la).trans a1
        have a2 := (BX.cell (p := ⟨g, q + i * 3 + 2, none⟩) la).trans a2
        have hbs := BX.size
        have BB := Lib.hid (And.intro b0 (And.intro b1 (b2)))
        clear hst hmem g1 g2 e1 e2  b0 b1 b2 il im
        have Z1 := Own.new wr 71 #[.string ⟨#[]⟩, .int .i64 0, .int .i64 0]
        have HK1 := Lib.hid (Below.of_row ((Below.refl wr.heap.size wr).alloc (Nat.le_refl _) (.cells #[.string ⟨#[]⟩, .int .i64 0, .int .i64 0] 71)) (g := wr.heap.size) (Nat.le_refl _) #[.string x.name, .int .i64 x.wd, .int .i64 x.pos])
        have P1 := Lib.hid (Z1.row #[.string x.name, .int .i64 x.wd, .int .i64 x.pos])
        have HS1 := Lib.hid ((size_setRow (wr.alloc (.cells #[.string ⟨#[]⟩, .int .i64 0, .int .i64 0] 71)) wr.heap.size #[.string x.name, .int .i64 x.wd, .int .i64 x.pos]).trans (World.size_alloc _ _))
        go_upto_region 6 with (first | (refine st rowDc rfl rfl Z1 rfl rfl (by rfl) (by rfl) (by kernel_rfl) ?_))
        obtain ⟨W1, hW1⟩ : ∃ W, W = (wr.alloc (.cells #[.string ⟨#[]⟩, .int .i64 0, .int .i64 0] 71)).setRow wr.heap.size #[.string x.name, .int .i64 x.wd, .int .i64 x.pos] := ⟨_, rfl⟩
        rw [← hW1] at P1 HK1 HS1 ⊢
        clear hW1 Z1 a0 a1 a2
        obtain ⟨b0, b1, b2⟩ := BB.out
        have BX := HB.out.trans (HK1.out.mono hbs)
        have b0 := (BX.cell (p := ⟨g', q' + i * 3, none⟩) lb).trans b0
        have b1 := (BX.cell (p := ⟨g', q' + i * 3 + 1, none⟩) lb).trans b1
        have b2 := (BX.cell (p := ⟨g', q' + i * 3 + 2, none⟩) lb).trans b2
        have Z2 := Own.new W1 71 #[.string ⟨#[]⟩, .int .i64 0, .int .i64 0]
        have K2 := Lib.hid (Below.of_row ((Below.refl W1.heap.size W1).alloc (Nat.le_refl _) (.cells #[.string ⟨#[]⟩, .int .i64 0, .int .i64 0] 71)) (g := W1.heap.size) (Nat.le_refl _) #[.string y.name, .int .i64 y.wd, .int .i64 y.pos])
        have P2 := Lib.hid (Z2.row #[.string y.name, .int .i64 y.wd, .int .i64 y.pos])
        clear BX
        go_upto_region 7 with (first | (refine st rowDc rfl rfl Z2 rfl rfl (by rfl) (by rfl) (by kernel_rfl) ?_))
        obtain ⟨W2, hW2⟩ : ∃ W, W = (W1.alloc (.cells #[.string ⟨#[]⟩, .int .i64 0, .int .i64 0] 71)).setRow W1.heap.size #[.string y.name, .int .i64 y.wd, .int .i64 y.pos] := ⟨_, rfl⟩
        rw [← hW2] at P2 K2 ⊢
        clear hW2 Z2 b0 b1 b2
        have o1 := P1.out.below K2.out
        have o2 := P2.out
        have BW : Hid (Below w.heap.size w W2) := (HB.out.trans (HK1.out.mono hbs)).trans (K2.out.mono (by have := HS1.out; omega))
        have HC : Hid (Calls Tryd.prog 30 #[.agg #[.string x.name, .int .i64 x.wd, .int .i64 x.pos], .agg #[.string y.name, .int .i64 y.wd, .int .i64 y.pos]] W2 fun e' w' => e' = .returned (.bool (f x y)) ∧ Below W2.heap.size W2 w') :=
          HX.out _ _ _ _ rfl rfl
        generalize f x y = B at HST HC
        cases B with
        | false =>
          go_wp2_with (first | (refine ld rowDc rfl rfl rfl o1 rfl ?_) | (refine ld rowDc rfl rfl rfl o2 rfl ?_) | (go_at_call 30; refine (HC.out).mono ?_; rintro e w3 ⟨rfl, hb3⟩; have HB3 := Lib.hid hb3; clear hb3))
          go_ret
          refine ⟨by rw [HST.out]; rfl, BW.out.trans (HB3.out.mono (BW.out.size))⟩
        | true =>
          go_wp2_with (first | (refine ld rowDc rfl rfl rfl o1 rfl ?_) | (refine ld rowDc rfl rfl rfl o2 rfl ?_) | (go_at_call 30; refine (HC.out).mono ?_; rintro e w3 ⟨rfl, hb3⟩; have HB3 := Lib.hid hb3; clear hb3))
          go_roundg (n - (i + 1) + 1)
          case measure => have := HM.out; omega
          case rel => exact ⟨i + 1, rfl, by omega, by omega, by rw [HST.out]; simp, BW.out.trans (HB3.out.mono (BW.out.size))⟩
      · have : i = n := by omega
        subst this
        have hR : R = true := by rw [← HRI.out]; exact sameBy_end (by have := HN.out; omega) (by have := HLM.out; have := HN.out; omega)
        have HRT := Lib.hid hR
        clear hR
        go_wp2_with fail
        go_ret
        exact ⟨by rw [HRT.out]; rfl, HB.out⟩
  · rw [sameBy_ne hne]
    obtain ⟨n, hn⟩ : ∃ n, n = l.length := ⟨_, rfl⟩
    obtain ⟨k, hk⟩ : ∃ k, k = m.length := ⟨_, rfl⟩
    rw [← hn] at hne hl ⊢
    rw [← hk] at hne ⊢
    have hq : ((n : Int) == (k : Int)) = false := by simp; omega
    clear h1 h2 HI hn hk
    go_enter Tryd.func29, Tryd.ntmps29
    go_wp2_with fail
    go_ret
    exact ⟨rfl, Below.refl _ w⟩
set_option maxRecDepth 100000 in
set_option maxHeartbeats 4000000 in
theorem equal_s {f : St → St → Bool} {l : List St} (HI : ∀ x ∈ l, ∀ (y : St) (v u : Value) (w : World), sA w x v → sA w y u → Calls Tryd.prog 51 #[v, u] w fun e' w' => e' = .returned (.bool (f x y)) ∧ Below w.heap.size w w') {m : List St} {a b : Option Addr} {c1 c2 : Nat} {w : World} (hl : l.length ≤ 65536) (h1 : stsAt (fun _ => True) w l a) (h2 : stsAt (fun _ => True) w m b) :
    Calls Tryd.prog 50 #[.slice a l.length c1, .slice b m.length c2, .func (.func 51) #[] #[]] w fun e w' => e = .returned (.bool (sameBy f l m)) ∧ Below w.heap.size w w' := by
  by_cases hne : l.length = m.length
  · obtain ⟨R, hR⟩ : ∃ R, R = sameBy f l m := ⟨_, rfl⟩
    rw [← hR]
    have HRR := Lib.hid hR
    have HI := Lib.hid HI
    have HL := Lib.hid hl
    have HLM := Lib.hid hne
    have E1 := Lib.hid h1
    have E2 := Lib.hid h2
    rw [← hne]
    obtain ⟨n, hn⟩ : ∃ n, n = l.length := ⟨_, rfl⟩
    rw [← hn]
    have HN := Lib.hid hn
    have hn6 : n ≤ 65536 := by omega
    clear hl hne h1 h2 hR hn
    go_enter Tryd.func50, Tryd.ntmps50
    go_wp2_with fail
    go_loopg [17] (n + 1) (fun m' u W => ∃ i : Nat, u = .int .i64 (i : Int) ∧ i ≤ n ∧ m' = n - i + 1 ∧ sameBy f (l.drop i) (m.drop i) = R ∧ Below w.heap.size w W)
    case atStart => exact ⟨0, rfl, Nat.zero_le _, by omega, HRR.out.symm, Below.refl _ w⟩
    case round =>
      obtain ⟨i, rfl, hi, hm, hR, hb⟩ := hrel
      have HB := Lib.hid hb
      have HRI := Lib.hid hR
      have HM := Lib.hid hm
      clear hb hR hm
      by_cases hin : i < n
      · have HIN := Lib.hid hin
        have il : i < l.length := by have := HN.out; omega
        have im : i < m.length := by have := HLM.out; omega
        have g1 : l[i]? = some l[i] := List.getElem?_eq_getElem il
        have g2 : m[i]? = some m[i] := List.getElem?_eq_getElem im
        have hmem : l[i] ∈ l := List.getElem_mem il
        have hst := sameBy_step (f := f) il im
        generalize l[i] = x at g1 hst hmem
        generalize m[i] = y at g2 hst
        have HX := Lib.hid (HI.out x hmem)
        rcases E1.out with e | ⟨g, q, rfl, _, e1⟩
        · cases l with
          | nil => simp at il
          | cons => cases e
        rcases E2.out with e | ⟨g', q', rfl, _, e2⟩
        · cases m with
          | nil => simp at im
          | cons => cases e
        have x1 := stsIn_got i x e1 g1
        have y1 := stsIn_got i y e2 g2
        have HST := Lib.hid (HRI.out.symm.trans hst)
        obtain ⟨a0, a1, a2, ⟨ea1, ec1, a3, he1⟩, ⟨bda1, bdc1, a4, hbd1⟩, ⟨ela1, elc1, a5, hel1⟩, a6⟩ := x1
        obtain ⟨b0, b1, b2, ⟨ea2, ec2, b3, he2⟩, ⟨bda2, bdc2, b4, hbd2⟩, ⟨ela2, elc2, b5, hel2⟩, b6⟩ := y1
        have He1 := Lib.hid he1
        have He2 := Lib.hid he2
        have Hbd1 := Lib.hid hbd1
        have Hbd2 := Lib.hid hbd2
        have Hel1 := Lib.hid hel1
        have Hel2 := Lib.hid hel2
        have la := lt_of_at a0
        have lb := lt_of_at b0
        simp only at la lb
        have BX := HB.out
        have a0 := (BX.cell (p := ⟨g, q + i * 7, none⟩) la).trans a0
        have a1 := (BX.cell (p := ⟨g, q + i * 7 + 1, none⟩) la).trans a1
        have a2 := (BX.cell (p := ⟨g, q + i * 7 + 2, none⟩) la).trans a2
        have a3 := (BX.cell (p := ⟨g, q + i * 7 + 3, none⟩) la).trans a3
        have a4 := (BX.cell (p := ⟨g, q + i * 7 + 4, none⟩) la).trans a4
        have a5 := (BX.cell (p := ⟨g, q + i * 7 + 5, none⟩) la).trans a5
        have a6 := (BX.cell (p := ⟨g, q + i * 7 + 6, none⟩) la).trans a6
        have hbs := BX.size
        have BB := Lib.hid (And.intro b0 (And.intro b1 (And.intro b2 (And.intro b3 (And.intro b4 (And.intro b5 (b6)))))))
        clear hst hmem g1 g2 e1 e2 he1 he2 hbd1 hbd2 hel1 hel2 b0 b1 b2 b3 b4 b5 b6 il im
        have Z1 := Own.new wr 74 #[.int .u8 0, .string ⟨#[]⟩, .string ⟨#[]⟩, .slice none 0 0, .slice none 0 0, .slice none 0 0, .int .i64 0]
        have HK1 := Lib.hid (Below.of_row ((Below.refl wr.heap.size wr).alloc (Nat.le_refl _) (.cells #[.int .u8 0, .string ⟨#[]⟩, .string ⟨#[]⟩, .slice none 0 0, .slice none 0 0, .slice none 0 0, .int .i64 0] 74)) (g := wr.heap.size) (Nat.le_refl _) #[.int .u8 x.kind, .string x.name, .string x.other, .slice ea1 x.e.length ec1, .slice bda1 x.body.length bdc1, .slice ela1 x.els.length elc1, .int .i64 x.pos])
        have P1 := Lib.hid (Z1.row #[.int .u8 x.kind, .string x.name, .string x.other, .slice ea1 x.e.length ec1, .slice bda1 x.body.length bdc1, .slice ela1 x.els.length elc1, .int .i64 x.pos])
        have HS1 := Lib.hid ((size_setRow (wr.alloc (.cells #[.int .u8 0, .string ⟨#[]⟩, .string ⟨#[]⟩, .slice none 0 0, .slice none 0 0, .slice none 0 0, .int .i64 0] 74)) wr.heap.size #[.int .u8 x.kind, .string x.name, .string x.other, .slice ea1 x.e.length ec1, .slice bda1 x.body.length bdc1, .slice ela1 x.els.length elc1, .int .i64 x.pos]).trans (World.size_alloc _ _))
        go_upto_region 6 with (first | (refine st rowSt rfl rfl Z1 rfl rfl (by rfl) (by rfl) (by kernel_rfl) ?_))
        obtain ⟨W1, hW1⟩ : ∃ W, W = (wr.alloc (.cells #[.int .u8 0, .string ⟨#[]⟩, .string ⟨#[]⟩, .slice none 0 0, .slice none 0 0, .slice none 0 0, .int .i64 0] 74)).setRow wr.heap.size #[.int .u8 x.kind, .string x.name, .string x.other, .slice ea1 x.e.length ec1, .slice bda1 x.body.length bdc1, .slice ela1 x.els.length elc1, .int .i64 x.pos] := ⟨_, rfl⟩
        rw [← hW1] at P1 HK1 HS1 ⊢
        clear hW1 Z1 a0 a1 a2 a3 a4 a5 a6
        obtain ⟨b0, b1, b2, b3, b4, b5, b6⟩ := BB.out
        have BX := HB.out.trans (HK1.out.mono hbs)
        have b0 := (BX.cell (p := ⟨g', q' + i * 7, none⟩) lb).trans b0
        have b1 := (BX.cell (p := ⟨g', q' + i * 7 + 1, none⟩) lb).trans b1
        have b2 := (BX.cell (p := ⟨g', q' + i * 7 + 2, none⟩) lb).trans b2
        have b3 := (BX.cell (p := ⟨g', q' + i * 7 + 3, none⟩) lb).trans b3
        have b4 := (BX.cell (p := ⟨g', q' + i * 7 + 4, none⟩) lb).trans b4
        have b5 := (BX.cell (p := ⟨g', q' + i * 7 + 5, none⟩) lb).trans b5
        have b6 := (BX.cell (p := ⟨g', q' + i * 7 + 6, none⟩) lb).trans b6
        have Z2 := Own.new W1 74 #[.int .u8 0, .string ⟨#[]⟩, .string ⟨#[]⟩, .slice none 0 0, .slice none 0 0, .slice none 0 0, .int .i64 0]
        have K2 := Lib.hid (Below.of_row ((Below.refl W1.heap.size W1).alloc (Nat.le_refl _) (.cells #[.int .u8 0, .string ⟨#[]⟩, .string ⟨#[]⟩, .slice none 0 0, .slice none 0 0, .slice none 0 0, .int .i64 0] 74)) (g := W1.heap.size) (Nat.le_refl _) #[.int .u8 y.kind, .string y.name, .string y.other, .slice ea2 y.e.length ec2, .slice bda2 y.body.length bdc2, .slice ela2 y.els.length elc2, .int .i64 y.pos])
        have P2 := Lib.hid (Z2.row #[.int .u8 y.kind, .string y.name, .string y.other, .slice ea2 y.e.length ec2, .slice bda2 y.body.length bdc2, .slice ela2 y.els.length elc2, .int .i64 y.pos])
        clear BX
        go_upto_region 7 with (first | (refine st rowSt rfl rfl Z2 rfl rfl (by rfl) (by rfl) (by kernel_rfl) ?_))
        obtain ⟨W2, hW2⟩ : ∃ W, W = (W1.alloc (.cells #[.int .u8 0, .string ⟨#[]⟩, .string ⟨#[]⟩, .slice none 0 0, .slice none 0 0, .slice none 0 0, .int .i64 0] 74)).setRow W1.heap.size #[.int .u8 y.kind, .string y.name, .string y.other, .slice ea2 y.e.length ec2, .slice bda2 y.body.length bdc2, .slice ela2 y.els.length elc2, .int .i64 y.pos] := ⟨_, rfl⟩
        rw [← hW2] at P2 K2 ⊢
        clear hW2 Z2 b0 b1 b2 b3 b4 b5 b6
        have o1 := P1.out.below K2.out
        have o2 := P2.out
        have BW : Hid (Below w.heap.size w W2) := (HB.out.trans (HK1.out.mono hbs)).trans (K2.out.mono (by have := HS1.out; omega))
        have HC : Hid (Calls Tryd.prog 51 #[.agg #[.int .u8 x.kind, .string x.name, .string x.other, .slice ea1 x.e.length ec1, .slice bda1 x.body.length bdc1, .slice ela1 x.els.length elc1, .int .i64 x.pos], .agg #[.int .u8 y.kind, .string y.name, .string y.other, .slice ea2 y.e.length ec2, .slice bda2 y.body.length bdc2, .slice ela2 y.els.length elc2, .int .i64 y.pos]] W2 fun e' w' => e' = .returned (.bool (f x y)) ∧ Below W2.heap.size W2 w') :=
          HX.out _ _ _ _ ⟨ea1, ec1, bda1, bdc1, ela1, elc1, rfl, exsAt_below He1.out BW.out, stsAt_below Hbd1.out BW.out, stsAt_below Hel1.out BW.out⟩ ⟨ea2, ec2, bda2, bdc2, ela2, elc2, rfl, exsAt_below He2.out BW.out, stsAt_below Hbd2.out BW.out, stsAt_below Hel2.out BW.out⟩
        generalize f x y = B at HST HC
        cases B with
        | false =>
          go_wp2_with (first | (refine ld rowSt rfl rfl rfl o1 rfl ?_) | (refine ld rowSt rfl rfl rfl o2 rfl ?_) | (go_at_call 51; refine (HC.out).mono ?_; rintro e w3 ⟨rfl, hb3⟩; have HB3 := Lib.hid hb3; clear hb3))
          go_ret
          refine ⟨by rw [HST.out]; rfl, BW.out.trans (HB3.out.mono (BW.out.size))⟩
        | true =>
          go_wp2_with (first | (refine ld rowSt rfl rfl rfl o1 rfl ?_) | (refine ld rowSt rfl rfl rfl o2 rfl ?_) | (go_at_call 51; refine (HC.out).mono ?_; rintro e w3 ⟨rfl, hb3⟩; have HB3 := Lib.hid hb3; clear hb3))
          go_roundg (n - (i + 1) + 1)
          case measure => have := HM.out; omega
          case rel => exact ⟨i + 1, rfl, by omega, by omega, by rw [HST.out]; simp, BW.out.trans (HB3.out.mono (BW.out.size))⟩
      · have : i = n := by omega
        subst this
        have hR : R = true := by rw [← HRI.out]; exact sameBy_end (by have := HN.out; omega) (by have := HLM.out; have := HN.out; omega)
        have HRT := Lib.hid hR
        clear hR
        go_wp2_with fail
        go_ret
        exact ⟨by rw [HRT.out]; rfl, HB.out⟩
  · rw [sameBy_ne hne]
    obtain ⟨n, hn⟩ : ∃ n, n = l.length := ⟨_, rfl⟩
    obtain ⟨k, hk⟩ : ∃ k, k = m.length := ⟨_, rfl⟩
    rw [← hn] at hne hl ⊢
    rw [← hk] at hne ⊢
    have hq : ((n : Int) == (k : Int)) = false := by simp; omega
    clear h1 h2 HI hn hk
    go_enter Tryd.func50, Tryd.ntmps50
    go_wp2_with fail
    go_ret
    exact ⟨rfl, Below.refl _ w⟩
set_option maxRecDepth 100000 in
set_option maxHeartbeats 4000000 in
theorem equal_t {f : Th → Th → Bool} {l : List Th} (HI : ∀ x ∈ l, ∀ (y : Th) (v u : Value) (w : World), tA w x v → tA w y u → Calls Tryd.prog 32 #[v, u] w fun e' w' => e' = .returned (.bool (f x y)) ∧ Below w.heap.size w w') {m : List Th} {a b : Option Addr} {c1 c2 : Nat} {w : World} (hl : l.length ≤ 65536) (h1 : thsAt (fun _ => True) w l a) (h2 : thsAt (fun _ => True) w m b) :
    Calls Tryd.prog 31 #[.slice a l.length c1, .slice b m.length c2, .func (.func 32) #[] #[]] w fun e w' => e = .returned (.bool (sameBy f l m)) ∧ Below w.heap.size w w' := by
  by_cases hne : l.length = m.length
  · obtain ⟨R, hR⟩ : ∃ R, R = sameBy f l m := ⟨_, rfl⟩
    rw [← hR]
    have HRR := Lib.hid hR
    have HI := Lib.hid HI
    have HL := Lib.hid hl
    have HLM := Lib.hid hne
    have E1 := Lib.hid h1
    have E2 := Lib.hid h2
    rw [← hne]
    obtain ⟨n, hn⟩ : ∃ n, n = l.length := ⟨_, rfl⟩
    rw [← hn]
    have HN := Lib.hid hn
    have hn6 : n ≤ 65536 := by omega
    clear hl hne h1 h2 hR hn
    go_enter Tryd.func31, Tryd.ntmps31
    go_wp2_with fail
    go_loopg [17] (n + 1) (fun m' u W => ∃ i : Nat, u = .int .i64 (i : Int) ∧ i ≤ n ∧ m' = n - i + 1 ∧ sameBy f (l.drop i) (m.drop i) = R ∧ Below w.heap.size w W)
    case atStart => exact ⟨0, rfl, Nat.zero_le _, by omega, HRR.out.symm, Below.refl _ w⟩
    case round =>
      obtain ⟨i, rfl, hi, hm, hR, hb⟩ := hrel
      have HB := Lib.hid hb
      have HRI := Lib.hid hR
      have HM := Lib.hid hm
      clear hb hR hm
      by_cases hin : i < n
      · have HIN := Lib.hid hin
        have il : i < l.length := by have := HN.out; omega
        have im : i < m.length := by have := HLM.out; omega
        have g1 : l[i]? = some l[i] := List.getElem?_eq_getElem il
        have g2 : m[i]? = some m[i] := List.getElem?_eq_getElem im
        have hmem : l[i] ∈ l := List.getElem_mem il
        have hst := sameBy_step (f := f) il im
        generalize l[i] = x at g1 hst hmem
        generalize m[i] = y at g2 hst
        have HX := Lib.hid (HI.out x hmem)
        rcases E1.out with e | ⟨g, q, rfl, _, e1⟩
        · cases l with
          | nil => simp at il
          | cons => cases e
        rcases E2.out with e | ⟨g', q', rfl, _, e2⟩
        · cases m with
          | nil => simp at im
          | cons => cases e
        have x1 := thsIn_get i x e1 g1
        have y1 := thsIn_get i y e2 g2
        have HST := Lib.hid (HRI.out.symm.trans hst)
        obtain ⟨a0, ⟨loa1, loc1, a1, hlo1⟩, ⟨bda1, bdc1, a2, hbd1⟩, a3⟩ := x1
        obtain ⟨b0, ⟨loa2, loc2, b1, hlo2⟩, ⟨bda2, bdc2, b2, hbd2⟩, b3⟩ := y1
        have Hlo1 := Lib.hid hlo1
        have Hlo2 := Lib.hid hlo2
        have Hbd1 := Lib.hid hbd1
        have Hbd2 := Lib.hid hbd2
        have la := lt_of_at a0
        have lb := lt_of_at b0
        simp only at la lb
        have BX := HB.out
        have a0 := (BX.cell (p := ⟨g, q + i * 4, none⟩) la).trans a0
        have a1 := (BX.cell (p := ⟨g, q + i * 4 + 1, none⟩) la).trans a1
        have a2 := (BX.cell (p := ⟨g, q + i * 4 + 2, none⟩) la).trans a2
        have a3 := (BX.cell (p := ⟨g, q + i * 4 + 3, none⟩) la).trans a3
        have hbs := BX.size
        have BB := Lib.hid (And.intro b0 (And.intro b1 (And.intro b2 (b3))))
        clear hst hmem g1 g2 e1 e2 hlo1 hlo2 hbd1 hbd2 b0 b1 b2 b3 il im
        have Z1 := Own.new wr 69 #[.string ⟨#[]⟩, .slice none 0 0, .slice none 0 0, .int .i64 0]
        have HK1 := Lib.hid (Below.of_row ((Below.refl wr.heap.size wr).alloc (Nat.le_refl _) (.cells #[.string ⟨#[]⟩, .slice none 0 0, .slice none 0 0, .int .i64 0] 69)) (g := wr.heap.size) (Nat.le_refl _) #[.string x.name, .slice loa1 x.locals.length loc1, .slice bda1 x.body.length bdc1, .int .i64 x.pos])
        have P1 := Lib.hid (Z1.row #[.string x.name, .slice loa1 x.locals.length loc1, .slice bda1 x.body.length bdc1, .int .i64 x.pos])
        have HS1 := Lib.hid ((size_setRow (wr.alloc (.cells #[.string ⟨#[]⟩, .slice none 0 0, .slice none 0 0, .int .i64 0] 69)) wr.heap.size #[.string x.name, .slice loa1 x.locals.length loc1, .slice bda1 x.body.length bdc1, .int .i64 x.pos]).trans (World.size_alloc _ _))
        go_upto_region 6 with (first | (refine st rowTh rfl rfl Z1 rfl rfl (by rfl) (by rfl) (by kernel_rfl) ?_))
        obtain ⟨W1, hW1⟩ : ∃ W, W = (wr.alloc (.cells #[.string ⟨#[]⟩, .slice none 0 0, .slice none 0 0, .int .i64 0] 69)).setRow wr.heap.size #[.string x.name, .slice loa1 x.locals.length loc1, .slice bda1 x.body.length bdc1, .int .i64 x.pos] := ⟨_, rfl⟩
        rw [← hW1] at P1 HK1 HS1 ⊢
        clear hW1 Z1 a0 a1 a2 a3
        obtain ⟨b0, b1, b2, b3⟩ := BB.out
        have BX := HB.out.trans (HK1.out.mono hbs)
        have b0 := (BX.cell (p := ⟨g', q' + i * 4, none⟩) lb).trans b0
        have b1 := (BX.cell (p := ⟨g', q' + i * 4 + 1, none⟩) lb).trans b1
        have b2 := (BX.cell (p := ⟨g', q' + i * 4 + 2, none⟩) lb).trans b2
        have b3 := (BX.cell (p := ⟨g', q' + i * 4 + 3, none⟩) lb).trans b3
        have Z2 := Own.new W1 69 #[.string ⟨#[]⟩, .slice none 0 0, .slice none 0 0, .int .i64 0]
        have K2 := Lib.hid (Below.of_row ((Below.refl W1.heap.size W1).alloc (Nat.le_refl _) (.cells #[.string ⟨#[]⟩, .slice none 0 0, .slice none 0 0, .int .i64 0] 69)) (g := W1.heap.size) (Nat.le_refl _) #[.string y.name, .slice loa2 y.locals.length loc2, .slice bda2 y.body.length bdc2, .int .i64 y.pos])
        have P2 := Lib.hid (Z2.row #[.string y.name, .slice loa2 y.locals.length loc2, .slice bda2 y.body.length bdc2, .int .i64 y.pos])
        clear BX
        go_upto_region 7 with (first | (refine st rowTh rfl rfl Z2 rfl rfl (by rfl) (by rfl) (by kernel_rfl) ?_))
        obtain ⟨W2, hW2⟩ : ∃ W, W = (W1.alloc (.cells #[.string ⟨#[]⟩, .slice none 0 0, .slice none 0 0, .int .i64 0] 69)).setRow W1.heap.size #[.string y.name, .slice loa2 y.locals.length loc2, .slice bda2 y.body.length bdc2, .int .i64 y.pos] := ⟨_, rfl⟩
        rw [← hW2] at P2 K2 ⊢
        clear hW2 Z2 b0 b1 b2 b3
        have o1 := P1.out.below K2.out
        have o2 := P2.out
        have BW : Hid (Below w.heap.size w W2) := (HB.out.trans (HK1.out.mono hbs)).trans (K2.out.mono (by have := HS1.out; omega))
        have HC : Hid (Calls Tryd.prog 32 #[.agg #[.string x.name, .slice loa1 x.locals.length loc1, .slice bda1 x.body.length bdc1, .int .i64 x.pos], .agg #[.string y.name, .slice loa2 y.locals.length loc2, .slice bda2 y.body.length bdc2, .int .i64 y.pos]] W2 fun e' w' => e' = .returned (.bool (f x y)) ∧ Below W2.heap.size W2 w') :=
          HX.out _ _ _ _ ⟨loa1, loc1, bda1, bdc1, rfl, dcsAt_below Hlo1.out BW.out, stsAt_below Hbd1.out BW.out⟩ ⟨loa2, loc2, bda2, bdc2, rfl, dcsAt_below Hlo2.out BW.out, stsAt_below Hbd2.out BW.out⟩
        generalize f x y = B at HST HC
        cases B with
        | false =>
          go_wp2_with (first | (refine ld rowTh rfl rfl rfl o1 rfl ?_) | (refine ld rowTh rfl rfl rfl o2 rfl ?_) | (go_at_call 32; refine (HC.out).mono ?_; rintro e w3 ⟨rfl, hb3⟩; have HB3 := Lib.hid hb3; clear hb3))
          go_ret
          refine ⟨by rw [HST.out]; rfl, BW.out.trans (HB3.out.mono (BW.out.size))⟩
        | true =>
          go_wp2_with (first | (refine ld rowTh rfl rfl rfl o1 rfl ?_) | (refine ld rowTh rfl rfl rfl o2 rfl ?_) | (go_at_call 32; refine (HC.out).mono ?_; rintro e w3 ⟨rfl, hb3⟩; have HB3 := Lib.hid hb3; clear hb3))
          go_roundg (n - (i + 1) + 1)
          case measure => have := HM.out; omega
          case rel => exact ⟨i + 1, rfl, by omega, by omega, by rw [HST.out]; simp, BW.out.trans (HB3.out.mono (BW.out.size))⟩
      · have : i = n := by omega
        subst this
        have hR : R = true := by rw [← HRI.out]; exact sameBy_end (by have := HN.out; omega) (by have := HLM.out; have := HN.out; omega)
        have HRT := Lib.hid hR
        clear hR
        go_wp2_with fail
        go_ret
        exact ⟨by rw [HRT.out]; rfl, HB.out⟩
  · rw [sameBy_ne hne]
    obtain ⟨n, hn⟩ : ∃ n, n = l.length := ⟨_, rfl⟩
    obtain ⟨k, hk⟩ : ∃ k, k = m.length := ⟨_, rfl⟩
    rw [← hn] at hne hl ⊢
    rw [← hk] at hne ⊢
    have hq : ((n : Int) == (k : Int)) = false := by simp; omega
    clear h1 h2 HI hn hk
    go_enter Tryd.func31, Tryd.ntmps31
    go_wp2_with fail
    go_ret
    exact ⟨rfl, Below.refl _ w⟩
end Go.Proofs.YtjpmdafaaonpoaaDoor

namespace Go.Proofs.YtjpmdafaaonpoaaDoor
open Go.RowKit
set_option linter.unusedVariables false
theorem sameBy_ex : ∀ l m : List Ex, sameBy sameE l m = sameEs l m
  | [], [] => by simp [sameBy, sameEs]
  | [], _ :: _ => by simp [sameBy, sameEs]
  | _ :: _, [] => by simp [sameBy, sameEs]
  | x :: r, y :: s => by simp only [sameBy, sameEs]; rw [sameBy_ex r s]
set_option maxRecDepth 100000 in
set_option maxHeartbeats 4000000 in
theorem same_d_0 {nm1 : ByteArray} {nm2 : ByteArray} {wd1 : Int} {wd2 : Int} {ps1 : Int} {ps2 : Int} (w : World) (q0 : (nm1.toList == nm2.toList) = false) :
    Calls Tryd.prog 30 #[.agg #[.string nm1, .int .i64 wd1, .int .i64 ps1], .agg #[.string nm2, .int .i64 wd2, .int .i64 ps2]] w fun e' w' => e' = .returned (.bool false) ∧ Below w.heap.size w w' := by
  have HB : Hid (Below w.heap.size w ((w.alloc (.cells #[.string nm1, .int .i64 wd1, .int .i64 ps1] 71)).alloc (.cells #[.string nm2, .int .i64 wd2, .int .i64 ps2] 71))) := (((Below.refl _ w).alloc (Nat.le_refl _) _).alloc (by rw [World.size_alloc]; omega) _)
  have O1 := Lib.hid ((Own.new w 71 #[.string nm1, .int .i64 wd1, .int .i64 ps1]).alloc (.cells #[.string nm2, .int .i64 wd2, .int .i64 ps2] 71))
  have O2 : Hid (Own ((w.alloc (.cells #[.string nm1, .int .i64 wd1, .int .i64 ps1] 71)).alloc (.cells #[.string nm2, .int .i64 wd2, .int .i64 ps2] 71)) (w.heap.size + 1) 71 #[.string nm2, .int .i64 wd2, .int .i64 ps2]) := by have := Own.new (w.alloc (.cells #[.string nm1, .int .i64 wd1, .int .i64 ps1] 71)) 71 #[.string nm2, .int .i64 wd2, .int .i64 ps2]; rw [World.size_alloc] at this; exact this
  go_enter Tryd.func30, Tryd.ntmps30
  go_wp2_with fail
  go_ret
  exact ⟨rfl, HB.out⟩
set_option maxRecDepth 100000 in
set_option maxHeartbeats 4000000 in
theorem same_d_1 {nm1 : ByteArray} {nm2 : ByteArray} {wd1 : Int} {wd2 : Int} {ps1 : Int} {ps2 : Int} (w : World) (q0 : (nm1.toList == nm2.toList) = true) (q1 : (wd1 == wd2) = false) :
    Calls Tryd.prog 30 #[.agg #[.string nm1, .int .i64 wd1, .int .i64 ps1], .agg #[.string nm2, .int .i64 wd2, .int .i64 ps2]] w fun e' w' => e' = .returned (.bool false) ∧ Below w.heap.size w w' := by
  have HB : Hid (Below w.heap.size w ((w.alloc (.cells #[.string nm1, .int .i64 wd1, .int .i64 ps1] 71)).alloc (.cells #[.string nm2, .int .i64 wd2, .int .i64 ps2] 71))) := (((Below.refl _ w).alloc (Nat.le_refl _) _).alloc (by rw [World.size_alloc]; omega) _)
  have O1 := Lib.hid ((Own.new w 71 #[.string nm1, .int .i64 wd1, .int .i64 ps1]).alloc (.cells #[.string nm2, .int .i64 wd2, .int .i64 ps2] 71))
  have O2 : Hid (Own ((w.alloc (.cells #[.string nm1, .int .i64 wd1, .int .i64 ps1] 71)).alloc (.cells #[.string nm2, .int .i64 wd2, .int .i64 ps2] 71)) (w.heap.size + 1) 71 #[.string nm2, .int .i64 wd2, .int .i64 ps2]) := by have := Own.new (w.alloc (.cells #[.string nm1, .int .i64 wd1, .int .i64 ps1] 71)) 71 #[.string nm2, .int .i64 wd2, .int .i64 ps2]; rw [World.size_alloc] at this; exact this
  go_enter Tryd.func30, Tryd.ntmps30
  go_wp2_with fail
  go_ret
  exact ⟨rfl, HB.out⟩
set_option maxRecDepth 100000 in
set_option maxHeartbeats 4000000 in
theorem same_d_2 {nm1 : ByteArray} {nm2 : ByteArray} {wd1 : Int} {wd2 : Int} {ps1 : Int} {ps2 : Int} (w : World) (q0 : (nm1.toList == nm2.toList) = true) (q1 : (wd1 == wd2) = true) :
    Calls Tryd.prog 30 #[.agg #[.string nm1, .int .i64 wd1, .int .i64 ps1], .agg #[.string nm2, .int .i64 wd2, .int .i64 ps2]] w fun e' w' => e' = .returned (.bool true) ∧ Below w.heap.size w w' := by
  have HB : Hid (Below w.heap.size w ((w.alloc (.cells #[.string nm1, .int .i64 wd1, .int .i64 ps1] 71)).alloc (.cells #[.string nm2, .int .i64 wd2, .int .i64 ps2] 71))) := (((Below.refl _ w).alloc (Nat.le_refl _) _).alloc (by rw [World.size_alloc]; omega) _)
  have O1 := Lib.hid ((Own.new w 71 #[.string nm1, .int .i64 wd1, .int .i64 ps1]).alloc (.cells #[.string nm2, .int .i64 wd2, .int .i64 ps2] 71))
  have O2 : Hid (Own ((w.alloc (.cells #[.string nm1, .int .i64 wd1, .int .i64 ps1] 71)).alloc (.cells #[.string nm2, .int .i64 wd2, .int .i64 ps2] 71)) (w.heap.size + 1) 71 #[.string nm2, .int .i64 wd2, .int .i64 ps2]) := by have := Own.new (w.alloc (.cells #[.string nm1, .int .i64 wd1, .int .i64 ps1] 71)) 71 #[.string nm2, .int .i64 wd2, .int .i64 ps2]; rw [World.size_alloc] at this; exact this
  go_enter Tryd.func30, Tryd.ntmps30
  go_wp2_with fail
  go_ret
  exact ⟨rfl, HB.out⟩
set_option maxRecDepth 100000 in
set_option maxHeartbeats 4000000 in
theorem same_s_0 {k1 : Int} {k2 : Int} {nm1 : ByteArray} {nm2 : ByteArray} {ot1 : ByteArray} {ot2 : ByteArray} {ea1 : Option Addr} {en1 ec1 : Nat} {ea2 : Option Addr} {en2 ec2 : Nat} {bda1 : Option Addr} {bdn1 bdc1 : Nat} {bda2 : Option Addr} {bdn2 bdc2 : Nat} {ela1 : Option Addr} {eln1 elc1 : Nat} {ela2 : Option Addr} {eln2 elc2 : Nat} {ps1 : Int} {ps2 : Int} (w : World) (q0 : (k1 == k2) = false) :
    Calls Tryd.prog 51 #[.agg #[.int .u8 k1, .string nm1, .string ot1, .slice ea1 en1 ec1, .slice bda1 bdn1 bdc1, .slice ela1 eln1 elc1, .int .i64 ps1], .agg #[.int .u8 k2, .string nm2, .string ot2, .slice ea2 en2 ec2, .slice bda2 bdn2 bdc2, .slice ela2 eln2 elc2, .int .i64 ps2]] w fun e' w' => e' = .returned (.bool false) ∧ Below w.heap.size w w' := by
  have HB : Hid (Below w.heap.size w ((w.alloc (.cells #[.int .u8 k1, .string nm1, .string ot1, .slice ea1 en1 ec1, .slice bda1 bdn1 bdc1, .slice ela1 eln1 elc1, .int .i64 ps1] 74)).alloc (.cells #[.int .u8 k2, .string nm2, .string ot2, .slice ea2 en2 ec2, .slice bda2 bdn2 bdc2, .slice ela2 eln2 elc2, .int .i64 ps2] 74))) := (((Below.refl _ w).alloc (Nat.le_refl _) _).alloc (by rw [World.size_alloc]; omega) _)
  have O1 := Lib.hid ((Own.new w 74 #[.int .u8 k1, .string nm1, .string ot1, .slice ea1 en1 ec1, .slice bda1 bdn1 bdc1, .slice ela1 eln1 elc1, .int .i64 ps1]).alloc (.cells #[.int .u8 k2, .string nm2, .string ot2, .slice ea2 en2 ec2, .slice bda2 bdn2 bdc2, .slice ela2 eln2 elc2, .int .i64 ps2] 74))
  have O2 : Hid (Own ((w.alloc (.cells #[.int .u8 k1, .string nm1, .string ot1, .slice ea1 en1 ec1, .slice bda1 bdn1 bdc1, .slice ela1 eln1 elc1, .int .i64 ps1] 74)).alloc (.cells #[.int .u8 k2, .string nm2, .string ot2, .slice ea2 en2 ec2, .slice bda2 bdn2 bdc2, .slice ela2 eln2 elc2, .int .i64 ps2] 74)) (w.heap.size + 1) 74 #[.int .u8 k2, .string nm2, .string ot2, .slice ea2 en2 ec2, .slice bda2 bdn2 bdc2, .slice ela2 eln2 elc2, .int .i64 ps2]) := by have := Own.new (w.alloc (.cells #[.int .u8 k1, .string nm1, .string ot1, .slice ea1 en1 ec1, .slice bda1 bdn1 bdc1, .slice ela1 eln1 elc1, .int .i64 ps1] 74)) 74 #[.int .u8 k2, .string nm2, .string ot2, .slice ea2 en2 ec2, .slice bda2 bdn2 bdc2, .slice ela2 eln2 elc2, .int .i64 ps2]; rw [World.size_alloc] at this; exact this
  go_enter Tryd.func51, Tryd.ntmps51
  go_wp2_with fail
  go_ret
  exact ⟨rfl, HB.out⟩
set_option maxRecDepth 100000 in
set_option maxHeartbeats 4000000 in
theorem same_s_1 {k1 : Int} {k2 : Int} {nm1 : ByteArray} {nm2 : ByteArray} {ot1 : ByteArray} {ot2 : ByteArray} {ea1 : Option Addr} {en1 ec1 : Nat} {ea2 : Option Addr} {en2 ec2 : Nat} {bda1 : Option Addr} {bdn1 bdc1 : Nat} {bda2 : Option Addr} {bdn2 bdc2 : Nat} {ela1 : Option Addr} {eln1 elc1 : Nat} {ela2 : Option Addr} {eln2 elc2 : Nat} {ps1 : Int} {ps2 : Int} (w : World) (q0 : (k1 == k2) = true) (q1 : (nm1.toList == nm2.toList) = false) :
    Calls Tryd.prog 51 #[.agg #[.int .u8 k1, .string nm1, .string ot1, .slice ea1 en1 ec1, .slice bda1 bdn1 bdc1, .slice ela1 eln1 elc1, .int .i64 ps1], .agg #[.int .u8 k2, .string nm2, .string ot2, .slice ea2 en2 ec2, .slice bda2 bdn2 bdc2, .slice ela2 eln2 elc2, .int .i64 ps2]] w fun e' w' => e' = .returned (.bool false) ∧ Below w.heap.size w w' := by
  have HB : Hid (Below w.heap.size w ((w.alloc (.cells #[.int .u8 k1, .string nm1, .string ot1, .slice ea1 en1 ec1, .slice bda1 bdn1 bdc1, .slice ela1 eln1 elc1, .int .i64 ps1] 74)).alloc (.cells #[.int .u8 k2, .string nm2, .string ot2, .slice ea2 en2 ec2, .slice bda2 bdn2 bdc2, .slice ela2 eln2 elc2, .int .i64 ps2] 74))) := (((Below.refl _ w).alloc (Nat.le_refl _) _).alloc (by rw [World.size_alloc]; omega) _)
  have O1 := Lib.hid ((Own.new w 74 #[.int .u8 k1, .string nm1, .string ot1, .slice ea1 en1 ec1, .slice bda1 bdn1 bdc1, .slice ela1 eln1 elc1, .int .i64 ps1]).alloc (.cells #[.int .u8 k2, .string nm2, .string ot2, .slice ea2 en2 ec2, .slice bda2 bdn2 bdc2, .slice ela2 eln2 elc2, .int .i64 ps2] 74))
  have O2 : Hid (Own ((w.alloc (.cells #[.int .u8 k1, .string nm1, .string ot1, .slice ea1 en1 ec1, .slice bda1 bdn1 bdc1, .slice ela1 eln1 elc1, .int .i64 ps1] 74)).alloc (.cells #[.int .u8 k2, .string nm2, .string ot2, .slice ea2 en2 ec2, .slice bda2 bdn2 bdc2, .slice ela2 eln2 elc2, .int .i64 ps2] 74)) (w.heap.size + 1) 74 #[.int .u8 k2, .string nm2, .string ot2, .slice ea2 en2 ec2, .slice bda2 bdn2 bdc2, .slice ela2 eln2 elc2, .int .i64 ps2]) := by have := Own.new (w.alloc (.cells #[.int .u8 k1, .string nm1, .string ot1, .slice ea1 en1 ec1, .slice bda1 bdn1 bdc1, .slice ela1 eln1 elc1, .int .i64 ps1] 74)) 74 #[.int .u8 k2, .string nm2, .string ot2, .slice ea2 en2 ec2, .slice bda2 bdn2 bdc2, .slice ela2 eln2 elc2, .int .i64 ps2]; rw [World.size_alloc] at this; exact this
  go_enter Tryd.func51, Tryd.ntmps51
  go_wp2_with fail
  go_ret
  exact ⟨rfl, HB.out⟩
set_option maxRecDepth 100000 in
set_option maxHeartbeats 4000000 in
theorem same_s_2 {k1 : Int} {k2 : Int} {nm1 : ByteArray} {nm2 : ByteArray} {ot1 : ByteArray} {ot2 : ByteArray} {ea1 : Option Addr} {en1 ec1 : Nat} {ea2 : Option Addr} {en2 ec2 : Nat} {bda1 : Option Addr} {bdn1 bdc1 : Nat} {bda2 : Option Addr} {bdn2 bdc2 : Nat} {ela1 : Option Addr} {eln1 elc1 : Nat} {ela2 : Option Addr} {eln2 elc2 : Nat} {ps1 : Int} {ps2 : Int} (w : World) (q0 : (k1 == k2) = true) (q1 : (nm1.toList == nm2.toList) = true) (q2 : (ot1.toList == ot2.toList) = false) :
    Calls Tryd.prog 51 #[.agg #[.int .u8 k1, .string nm1, .string ot1, .slice ea1 en1 ec1, .slice bda1 bdn1 bdc1, .slice ela1 eln1 elc1, .int .i64 ps1], .agg #[.int .u8 k2, .string nm2, .string ot2, .slice ea2 en2 ec2, .slice bda2 bdn2 bdc2, .slice ela2 eln2 elc2, .int .i64 ps2]] w fun e' w' => e' = .returned (.bool false) ∧ Below w.heap.size w w' := by
  have HB : Hid (Below w.heap.size w ((w.alloc (.cells #[.int .u8 k1, .string nm1, .string ot1, .slice ea1 en1 ec1, .slice bda1 bdn1 bdc1, .slice ela1 eln1 elc1, .int .i64 ps1] 74)).alloc (.cells #[.int .u8 k2, .string nm2, .string ot2, .slice ea2 en2 ec2, .slice bda2 bdn2 bdc2, .slice ela2 eln2 elc2, .int .i64 ps2] 74))) := (((Below.refl _ w).alloc (Nat.le_refl _) _).alloc (by rw [World.size_alloc]; omega) _)
  have O1 := Lib.hid ((Own.new w 74 #[.int .u8 k1, .string nm1, .string ot1, .slice ea1 en1 ec1, .slice bda1 bdn1 bdc1, .slice ela1 eln1 elc1, .int .i64 ps1]).alloc (.cells #[.int .u8 k2, .string nm2, .string ot2, .slice ea2 en2 ec2, .slice bda2 bdn2 bdc2, .slice ela2 eln2 elc2, .int .i64 ps2] 74))
  have O2 : Hid (Own ((w.alloc (.cells #[.int .u8 k1, .string nm1, .string ot1, .slice ea1 en1 ec1, .slice bda1 bdn1 bdc1, .slice ela1 eln1 elc1, .int .i64 ps1] 74)).alloc (.cells #[.int .u8 k2, .string nm2, .string ot2, .slice ea2 en2 ec2, .slice bda2 bdn2 bdc2, .slice ela2 eln2 elc2, .int .i64 ps2] 74)) (w.heap.size + 1) 74 #[.int .u8 k2, .string nm2, .string ot2, .slice ea2 en2 ec2, .slice bda2 bdn2 bdc2, .slice ela2 eln2 elc2, .int .i64 ps2]) := by have := Own.new (w.alloc (.cells #[.int .u8 k1, .string nm1, .string ot1, .slice ea1 en1 ec1, .slice bda1 bdn1 bdc1, .slice ela1 eln1 elc1, .int .i64 ps1] 74)) 74 #[.int .u8 k2, .string nm2, .string ot2, .slice ea2 en2 ec2, .slice bda2 bdn2 bdc2, .slice ela2 eln2 elc2, .int .i64 ps2]; rw [World.size_alloc] at this; exact this
  go_enter Tryd.func51, Tryd.ntmps51
  go_wp2_with fail
  go_ret
  exact ⟨rfl, HB.out⟩
set_option maxRecDepth 100000 in
set_option maxHeartbeats 4000000 in
theorem same_s_3 {k1 : Int} {k2 : Int} {nm1 : ByteArray} {nm2 : ByteArray} {ot1 : ByteArray} {ot2 : ByteArray} {ea1 : Option Addr} {en1 ec1 : Nat} {ea2 : Option Addr} {en2 ec2 : Nat} {bda1 : Option Addr} {bdn1 bdc1 : Nat} {bda2 : Option Addr} {bdn2 bdc2 : Nat} {ela1 : Option Addr} {eln1 elc1 : Nat} {ela2 : Option Addr} {eln2 elc2 : Nat} {ps1 : Int} {ps2 : Int} (w : World) (q0 : (k1 == k2) = true) (q1 : (nm1.toList == nm2.toList) = true) (q2 : (ot1.toList == ot2.toList) = true) (C3 : ∀ W, Below w.heap.size w W → Calls Tryd.prog 33 #[.slice ea1 en1 ec1, .slice ea2 en2 ec2, .func (.func 15) #[] #[]] W fun e w' => e = .returned (.bool false) ∧ Below W.heap.size W w') :
    Calls Tryd.prog 51 #[.agg #[.int .u8 k1, .string nm1, .string ot1, .slice ea1 en1 ec1, .slice bda1 bdn1 bdc1, .slice ela1 eln1 elc1, .int .i64 ps1], .agg #[.int .u8 k2, .string nm2, .string ot2, .slice ea2 en2 ec2, .slice bda2 bdn2 bdc2, .slice ela2 eln2 elc2, .int .i64 ps2]] w fun e' w' => e' = .returned (.bool false) ∧ Below w.heap.size w w' := by
  have C3 := Lib.hid C3
  have HB : Hid (Below w.heap.size w ((w.alloc (.cells #[.int .u8 k1, .string nm1, .string ot1, .slice ea1 en1 ec1, .slice bda1 bdn1 bdc1, .slice ela1 eln1 elc1, .int .i64 ps1] 74)).alloc (.cells #[.int .u8 k2, .string nm2, .string ot2, .slice ea2 en2 ec2, .slice bda2 bdn2 bdc2, .slice ela2 eln2 elc2, .int .i64 ps2] 74))) := (((Below.refl _ w).alloc (Nat.le_refl _) _).alloc (by rw [World.size_alloc]; omega) _)
  have O1 := Lib.hid ((Own.new w 74 #[.int .u8 k1, .string nm1, .string ot1, .slice ea1 en1 ec1, .slice bda1 bdn1 bdc1, .slice ela1 eln1 elc1, .int .i64 ps1]).alloc (.cells #[.int .u8 k2, .string nm2, .string ot2, .slice ea2 en2 ec2, .slice bda2 bdn2 bdc2, .slice ela2 eln2 elc2, .int .i64 ps2] 74))
  have O2 : Hid (Own ((w.alloc (.cells #[.int .u8 k1, .string nm1, .string ot1, .slice ea1 en1 ec1, .slice bda1 bdn1 bdc1, .slice ela1 eln1 elc1, .int .i64 ps1] 74)).alloc (.cells #[.int .u8 k2, .string nm2, .string ot2, .slice ea2 en2 ec2, .slice bda2 bdn2 bdc2, .slice ela2 eln2 elc2, .int .i64 ps2] 74)) (w.heap.size + 1) 74 #[.int .u8 k2, .string nm2, .string ot2, .slice ea2 en2 ec2, .slice bda2 bdn2 bdc2, .slice ela2 eln2 elc2, .int .i64 ps2]) := by have := Own.new (w.alloc (.cells #[.int .u8 k1, .string nm1, .string ot1, .slice ea1 en1 ec1, .slice bda1 bdn1 bdc1, .slice ela1 eln1 elc1, .int .i64 ps1] 74)) 74 #[.int .u8 k2, .string nm2, .string ot2, .slice ea2 en2 ec2, .slice bda2 bdn2 bdc2, .slice ela2 eln2 elc2, .int .i64 ps2]; rw [World.size_alloc] at this; exact this
  go_enter Tryd.func51, Tryd.ntmps51
  go_wp2_with fail
  go_at_call 33
  refine (C3.out _ HB.out).mono ?_
  rintro e w3 ⟨rfl, hb3⟩
  have O1 := Lib.hid (O1.out.below hb3)
  have O2 := Lib.hid (O2.out.below hb3)
  have HB := Lib.hid (HB.out.trans (hb3.mono HB.out.size))
  clear hb3
  go_wp2_with fail
  go_ret
  exact ⟨rfl, HB.out⟩
set_option maxRecDepth 100000 in
set_option maxHeartbeats 4000000 in
theorem same_s_4 {k1 : Int} {k2 : Int} {nm1 : ByteArray} {nm2 : ByteArray} {ot1 : ByteArray} {ot2 : ByteArray} {ea1 : Option Addr} {en1 ec1 : Nat} {ea2 : Option Addr} {en2 ec2 : Nat} {bda1 : Option Addr} {bdn1 bdc1 : Nat} {bda2 : Option Addr} {bdn2 bdc2 : Nat} {ela1 : Option Addr} {eln1 elc1 : Nat} {ela2 : Option Addr} {eln2 elc2 : Nat} {ps1 : Int} {ps2 : Int} (w : World) (q0 : (k1 == k2) = true) (q1 : (nm1.toList == nm2.toList) = true) (q2 : (ot1.toList == ot2.toList) = true) (C3 : ∀ W, Below w.heap.size w W → Calls Tryd.prog 33 #[.slice ea1 en1 ec1, .slice ea2 en2 ec2, .func (.func 15) #[] #[]] W fun e w' => e = .returned (.bool true) ∧ Below W.heap.size W w') (C4 : ∀ W, Below w.heap.size w W → Calls Tryd.prog 50 #[.slice bda1 bdn1 bdc1, .slice bda2 bdn2 bdc2, .func (.func 51) #[] #[]] W fun e w' => e = .returned (.bool false) ∧ Below W.heap.size W w') :
    Calls Tryd.prog 51 #[.agg #[.int .u8 k1, .string nm1, .string ot1, .slice ea1 en1 ec1, .slice bda1 bdn1 bdc1, .slice ela1 eln1 elc1, .int .i64 ps1], .agg #[.int .u8 k2, .string nm2, .string ot2, .slice ea2 en2 ec2, .slice bda2 bdn2 bdc2, .slice ela2 eln2 elc2, .int .i64 ps2]] w fun e' w' => e' = .returned (.bool false) ∧ Below w.heap.size w w' := by
  have C3 := Lib.hid C3
  have C4 := Lib.hid C4
  have HB : Hid (Below w.heap.size w ((w.alloc (.cells #[.int .u8 k1, .string nm1, .string ot1, .slice ea1 en1 ec1, .slice bda1 bdn1 bdc1, .slice ela1 eln1 elc1, .int .i64 ps1] 74)).alloc (.cells #[.int .u8 k2, .string nm2, .string ot2, .slice ea2 en2 ec2, .slice bda2 bdn2 bdc2, .slice ela2 eln2 elc2, .int .i64 ps2] 74))) := (((Below.refl _ w).alloc (Nat.le_refl _) _).alloc (by rw [World.size_alloc]; omega) _)
  have O1 := Lib.hid ((Own.new w 74 #[.int .u8 k1, .string nm1, .string ot1, .slice ea1 en1 ec1, .slice bda1 bdn1 bdc1, .slice ela1 eln1 elc1, .int .i64 ps1]).alloc (.cells #[.int .u8 k2, .string nm2, .string ot2, .slice ea2 en2 ec2, .slice bda2 bdn2 bdc2, .slice ela2 eln2 elc2, .int .i64 ps2] 74))
  have O2 : Hid (Own ((w.alloc (.cells #[.int .u8 k1, .string nm1, .string ot1, .slice ea1 en1 ec1, .slice bda1 bdn1 bdc1, .slice ela1 eln1 elc1, .int .i64 ps1] 74)).alloc (.cells #[.int .u8 k2, .string nm2, .string ot2, .slice ea2 en2 ec2, .slice bda2 bdn2 bdc2, .slice ela2 eln2 elc2, .int .i64 ps2] 74)) (w.heap.size + 1) 74 #[.int .u8 k2, .string nm2, .string ot2, .slice ea2 en2 ec2, .slice bda2 bdn2 bdc2, .slice ela2 eln2 elc2, .int .i64 ps2]) := by have := Own.new (w.alloc (.cells #[.int .u8 k1, .string nm1, .string ot1, .slice ea1 en1 ec1, .slice bda1 bdn1 bdc1, .slice ela1 eln1 elc1, .int .i64 ps1] 74)) 74 #[.int .u8 k2, .string nm2, .string ot2, .slice ea2 en2 ec2, .slice bda2 bdn2 bdc2, .slice ela2 eln2 elc2, .int .i64 ps2]; rw [World.size_alloc] at this; exact this
  go_enter Tryd.func51, Tryd.ntmps51
  go_wp2_with fail
  go_at_call 33
  refine (C3.out _ HB.out).mono ?_
  rintro e w3 ⟨rfl, hb3⟩
  have O1 := Lib.hid (O1.out.below hb3)
  have O2 := Lib.hid (O2.out.below hb3)
  have HB := Lib.hid (HB.out.trans (hb3.mono HB.out.size))
  clear hb3
  have x0_41 : w3.cell? ⟨w.heap.size, 4, none⟩ = some (.slice bda1 bdn1 bdc1) := by rw [cell_of_row _ _ 4 _ _ _ O1.out]; rfl
  have x0_42 : w3.cell? ⟨w.heap.size + 1, 4, none⟩ = some (.slice bda2 bdn2 bdc2) := by rw [cell_of_row _ _ 4 _ _ _ O2.out]; rfl
  go_wp2_with fail
  go_at_call 50
  refine (C4.out _ HB.out).mono ?_
  rintro e w4 ⟨rfl, hb4⟩
  have O1 := Lib.hid (O1.out.below hb4)
  have O2 := Lib.hid (O2.out.below hb4)
  have HB := Lib.hid (HB.out.trans (hb4.mono HB.out.size))
  clear hb4
  go_wp2_with fail
  go_ret
  exact ⟨rfl, HB.out⟩
set_option maxRecDepth 100000 in
set_option maxHeartbeats 4000000 in
theorem same_s_5 {k1 : Int} {k2 : Int} {nm1 : ByteArray} {nm2 : ByteArray} {ot1 : ByteArray} {ot2 : ByteArray} {ea1 : Option Addr} {en1 ec1 : Nat} {ea2 : Option Addr} {en2 ec2 : Nat} {bda1 : Option Addr} {bdn1 bdc1 : Nat} {bda2 : Option Addr} {bdn2 bdc2 : Nat} {ela1 : Option Addr} {eln1 elc1 : Nat} {ela2 : Option Addr} {eln2 elc2 : Nat} {ps1 : Int} {ps2 : Int} (w : World) (q0 : (k1 == k2) = true) (q1 : (nm1.toList == nm2.toList) = true) (q2 : (ot1.toList == ot2.toList) = true) (C3 : ∀ W, Below w.heap.size w W → Calls Tryd.prog 33 #[.slice ea1 en1 ec1, .slice ea2 en2 ec2, .func (.func 15) #[] #[]] W fun e w' => e = .returned (.bool true) ∧ Below W.heap.size W w') (C4 : ∀ W, Below w.heap.size w W → Calls Tryd.prog 50 #[.slice bda1 bdn1 bdc1, .slice bda2 bdn2 bdc2, .func (.func 51) #[] #[]] W fun e w' => e = .returned (.bool true) ∧ Below W.heap.size W w') (C5 : ∀ W, Below w.heap.size w W → Calls Tryd.prog 50 #[.slice ela1 eln1 elc1, .slice ela2 eln2 elc2, .func (.func 51) #[] #[]] W fun e w' => e = .returned (.bool false) ∧ Below W.heap.size W w') :
    Calls Tryd.prog 51 #[.agg #[.int .u8 k1, .string nm1, .string ot1, .slice ea1 en1 ec1, .slice bda1 bdn1 bdc1, .slice ela1 eln1 elc1, .int .i64 ps1], .agg #[.int .u8 k2, .string nm2, .string ot2, .slice ea2 en2 ec2, .slice bda2 bdn2 bdc2, .slice ela2 eln2 elc2, .int .i64 ps2]] w fun e' w' => e' = .returned (.bool false) ∧ Below w.heap.size w w' := by
  have C3 := Lib.hid C3
  have C4 := Lib.hid C4
  have C5 := Lib.hid C5
  have HB : Hid (Below w.heap.size w ((w.alloc (.cells #[.int .u8 k1, .string nm1, .string ot1, .slice ea1 en1 ec1, .slice bda1 bdn1 bdc1, .slice ela1 eln1 elc1, .int .i64 ps1] 74)).alloc (.cells #[.int .u8 k2, .string nm2, .string ot2, .slice ea2 en2 ec2, .slice bda2 bdn2 bdc2, .slice ela2 eln2 elc2, .int .i64 ps2] 74))) := (((Below.refl _ w).alloc (Nat.le_refl _) _).alloc (by rw [World.size_alloc]; omega) _)
  have O1 := Lib.hid ((Own.new w 74 #[.int .u8 k1, .string nm1, .string ot1, .slice ea1 en1 ec1, .slice bda1 bdn1 bdc1, .slice ela1 eln1 elc1, .int .i64 ps1]).alloc (.cells #[.int .u8 k2, .string nm2, .string ot2, .slice ea2 en2 ec2, .slice bda2 bdn2 bdc2, .slice ela2 eln2 elc2, .int .i64 ps2] 74))
  have O2 : Hid (Own ((w.alloc (.cells #[.int .u8 k1, .string nm1, .string ot1, .slice ea1 en1 ec1, .slice bda1 bdn1 bdc1, .slice ela1 eln1 elc1, .int .i64 ps1] 74)).alloc (.cells #[.int .u8 k2, .string nm2, .string ot2, .slice ea2 en2 ec2, .slice bda2 bdn2 bdc2, .slice ela2 eln2 elc2, .int .i64 ps2] 74)) (w.heap.size + 1) 74 #[.int .u8 k2, .string nm2, .string ot2, .slice ea2 en2 ec2, .slice bda2 bdn2 bdc2, .slice ela2 eln2 elc2, .int .i64 ps2]) := by have := Own.new (w.alloc (.cells #[.int .u8 k1, .string nm1, .string ot1, .slice ea1 en1 ec1, .slice bda1 bdn1 bdc1, .slice ela1 eln1 elc1, .int .i64 ps1] 74)) 74 #[.int .u8 k2, .string nm2, .string ot2, .slice ea2 en2 ec2, .slice bda2 bdn2 bdc2, .slice ela2 eln2 elc2, .int .i64 ps2]; rw [World.size_alloc] at this; exact this
  go_enter Tryd.func51, Tryd.ntmps51
  go_wp2_with fail
  go_at_call 33
  refine (C3.out _ HB.out).mono ?_
  rintro e w3 ⟨rfl, hb3⟩
  have O1 := Lib.hid (O1.out.below hb3)
  have O2 := Lib.hid (O2.out.below hb3)
  have HB := Lib.hid (HB.out.trans (hb3.mono HB.out.size))
  clear hb3
  have x0_41 : w3.cell? ⟨w.heap.size, 4, none⟩ = some (.slice bda1 bdn1 bdc1) := by rw [cell_of_row _ _ 4 _ _ _ O1.out]; rfl
  have x0_42 : w3.cell? ⟨w.heap.size + 1, 4, none⟩ = some (.slice bda2 bdn2 bdc2) := by rw [cell_of_row _ _ 4 _ _ _ O2.out]; rfl
  have x0_51 : w3.cell? ⟨w.heap.size, 5, none⟩ = some (.slice ela1 eln1 elc1) := by rw [cell_of_row _ _ 5 _ _ _ O1.out]; rfl
  have x0_52 : w3.cell? ⟨w.heap.size + 1, 5, none⟩ = some (.slice ela2 eln2 elc2) := by rw [cell_of_row _ _ 5 _ _ _ O2.out]; rfl
  go_wp2_with fail
  go_at_call 50
  refine (C4.out _ HB.out).mono ?_
  rintro e w4 ⟨rfl, hb4⟩
  have O1 := Lib.hid (O1.out.below hb4)
  have O2 := Lib.hid (O2.out.below hb4)
  have HB := Lib.hid (HB.out.trans (hb4.mono HB.out.size))
  clear hb4
  have x1_51 : w4.cell? ⟨w.heap.size, 5, none⟩ = some (.slice ela1 eln1 elc1) := by rw [cell_of_row _ _ 5 _ _ _ O1.out]; rfl
  have x1_52 : w4.cell? ⟨w.heap.size + 1, 5, none⟩ = some (.slice ela2 eln2 elc2) := by rw [cell_of_row _ _ 5 _ _ _ O2.out]; rfl
  go_wp2_with fail
  go_at_call 50
  refine (C5.out _ HB.out).mono ?_
  rintro e w5 ⟨rfl, hb5⟩
  have O1 := Lib.hid (O1.out.below hb5)
  have O2 := Lib.hid (O2.out.below hb5)
  have HB := Lib.hid (HB.out.trans (hb5.mono HB.out.size))
  clear hb5
  go_wp2_with fail
  go_ret
  exact ⟨rfl, HB.out⟩
set_option maxRecDepth 100000 in
set_option maxHeartbeats 4000000 in
theorem same_s_6 {k1 : Int} {k2 : Int} {nm1 : ByteArray} {nm2 : ByteArray} {ot1 : ByteArray} {ot2 : ByteArray} {ea1 : Option Addr} {en1 ec1 : Nat} {ea2 : Option Addr} {en2 ec2 : Nat} {bda1 : Option Addr} {bdn1 bdc1 : Nat} {bda2 : Option Addr} {bdn2 bdc2 : Nat} {ela1 : Option Addr} {eln1 elc1 : Nat} {ela2 : Option Addr} {eln2 elc2 : Nat} {ps1 : Int} {ps2 : Int} (w : World) (q0 : (k1 == k2) = true) (q1 : (nm1.toList == nm2.toList) = true) (q2 : (ot1.toList == ot2.toList) = true) (C3 : ∀ W, Below w.heap.size w W → Calls Tryd.prog 33 #[.slice ea1 en1 ec1, .slice ea2 en2 ec2, .func (.func 15) #[] #[]] W fun e w' => e = .returned (.bool true) ∧ Below W.heap.size W w') (C4 : ∀ W, Below w.heap.size w W → Calls Tryd.prog 50 #[.slice bda1 bdn1 bdc1, .slice bda2 bdn2 bdc2, .func (.func 51) #[] #[]] W fun e w' => e = .returned (.bool true) ∧ Below W.heap.size W w') (C5 : ∀ W, Below w.heap.size w W → Calls Tryd.prog 50 #[.slice ela1 eln1 elc1, .slice ela2 eln2 elc2, .func (.func 51) #[] #[]] W fun e w' => e = .returned (.bool true) ∧ Below W.heap.size W w') :
    Calls Tryd.prog 51 #[.agg #[.int .u8 k1, .string nm1, .string ot1, .slice ea1 en1 ec1, .slice bda1 bdn1 bdc1, .slice ela1 eln1 elc1, .int .i64 ps1], .agg #[.int .u8 k2, .string nm2, .string ot2, .slice ea2 en2 ec2, .slice bda2 bdn2 bdc2, .slice ela2 eln2 elc2, .int .i64 ps2]] w fun e' w' => e' = .returned (.bool true) ∧ Below w.heap.size w w' := by
  have C3 := Lib.hid C3
  have C4 := Lib.hid C4
  have C5 := Lib.hid C5
  have HB : Hid (Below w.heap.size w ((w.alloc (.cells #[.int .u8 k1, .string nm1, .string ot1, .slice ea1 en1 ec1, .slice bda1 bdn1 bdc1, .slice ela1 eln1 elc1, .int .i64 ps1] 74)).alloc (.cells #[.int .u8 k2, .string nm2, .string ot2, .slice ea2 en2 ec2, .slice bda2 bdn2 bdc2, .slice ela2 eln2 elc2, .int .i64 ps2] 74))) := (((Below.refl _ w).alloc (Nat.le_refl _) _).alloc (by rw [World.size_alloc]; omega) _)
  have O1 := Lib.hid ((Own.new w 74 #[.int .u8 k1, .string nm1, .string ot1, .slice ea1 en1 ec1, .slice bda1 bdn1 bdc1, .slice ela1 eln1 elc1, .int .i64 ps1]).alloc (.cells #[.int .u8 k2, .string nm2, .string ot2, .slice ea2 en2 ec2, .slice bda2 bdn2 bdc2, .slice ela2 eln2 elc2, .int .i64 ps2] 74))
  have O2 : Hid (Own ((w.alloc (.cells #[.int .u8 k1, .string nm1, .string ot1, .slice ea1 en1 ec1, .slice bda1 bdn1 bdc1, .slice ela1 eln1 elc1, .int .i64 ps1] 74)).alloc (.cells #[.int .u8 k2, .string nm2, .string ot2, .slice ea2 en2 ec2, .slice bda2 bdn2 bdc2, .slice ela2 eln2 elc2, .int .i64 ps2] 74)) (w.heap.size + 1) 74 #[.int .u8 k2, .string nm2, .string ot2, .slice ea2 en2 ec2, .slice bda2 bdn2 bdc2, .slice ela2 eln2 elc2, .int .i64 ps2]) := by have := Own.new (w.alloc (.cells #[.int .u8 k1, .string nm1, .string ot1, .slice ea1 en1 ec1, .slice bda1 bdn1 bdc1, .slice ela1 eln1 elc1, .int .i64 ps1] 74)) 74 #[.int .u8 k2, .string nm2, .string ot2, .slice ea2 en2 ec2, .slice bda2 bdn2 bdc2, .slice ela2 eln2 elc2, .int .i64 ps2]; rw [World.size_alloc] at this; exact this
  go_enter Tryd.func51, Tryd.ntmps51
  go_wp2_with fail
  go_at_call 33
  refine (C3.out _ HB.out).mono ?_
  rintro e w3 ⟨rfl, hb3⟩
  have O1 := Lib.hid (O1.out.below hb3)
  have O2 := Lib.hid (O2.out.below hb3)
  have HB := Lib.hid (HB.out.trans (hb3.mono HB.out.size))
  clear hb3
  have x0_41 : w3.cell? ⟨w.heap.size, 4, none⟩ = some (.slice bda1 bdn1 bdc1) := by rw [cell_of_row _ _ 4 _ _ _ O1.out]; rfl
  have x0_42 : w3.cell? ⟨w.heap.size + 1, 4, none⟩ = some (.slice bda2 bdn2 bdc2) := by rw [cell_of_row _ _ 4 _ _ _ O2.out]; rfl
  have x0_51 : w3.cell? ⟨w.heap.size, 5, none⟩ = some (.slice ela1 eln1 elc1) := by rw [cell_of_row _ _ 5 _ _ _ O1.out]; rfl
  have x0_52 : w3.cell? ⟨w.heap.size + 1, 5, none⟩ = some (.slice ela2 eln2 elc2) := by rw [cell_of_row _ _ 5 _ _ _ O2.out]; rfl
  go_wp2_with fail
  go_at_call 50
  refine (C4.out _ HB.out).mono ?_
  rintro e w4 ⟨rfl, hb4⟩
  have O1 := Lib.hid (O1.out.below hb4)
  have O2 := Lib.hid (O2.out.below hb4)
  have HB := Lib.hid (HB.out.trans (hb4.mono HB.out.size))
  clear hb4
  have x1_51 : w4.cell? ⟨w.heap.size, 5, none⟩ = some (.slice ela1 eln1 elc1) := by rw [cell_of_row _ _ 5 _ _ _ O1.out]; rfl
  have x1_52 : w4.cell? ⟨w.heap.size + 1, 5, none⟩ = some (.slice ela2 eln2 elc2) := by rw [cell_of_row _ _ 5 _ _ _ O2.out]; rfl
  go_wp2_with fail
  go_at_call 50
  refine (C5.out _ HB.out).mono ?_
  rintro e w5 ⟨rfl, hb5⟩
  have O1 := Lib.hid (O1.out.below hb5)
  have O2 := Lib.hid (O2.out.below hb5)
  have HB := Lib.hid (HB.out.trans (hb5.mono HB.out.size))
  clear hb5
  go_wp2_with fail
  go_ret
  exact ⟨rfl, HB.out⟩
set_option maxRecDepth 100000 in
set_option maxHeartbeats 4000000 in
theorem same_t_0 {nm1 : ByteArray} {nm2 : ByteArray} {loa1 : Option Addr} {lon1 loc1 : Nat} {loa2 : Option Addr} {lon2 loc2 : Nat} {bda1 : Option Addr} {bdn1 bdc1 : Nat} {bda2 : Option Addr} {bdn2 bdc2 : Nat} {ps1 : Int} {ps2 : Int} (w : World) (q0 : (nm1.toList == nm2.toList) = false) :
    Calls Tryd.prog 32 #[.agg #[.string nm1, .slice loa1 lon1 loc1, .slice bda1 bdn1 bdc1, .int .i64 ps1], .agg #[.string nm2, .slice loa2 lon2 loc2, .slice bda2 bdn2 bdc2, .int .i64 ps2]] w fun e' w' => e' = .returned (.bool false) ∧ Below w.heap.size w w' := by
  have HB : Hid (Below w.heap.size w ((w.alloc (.cells #[.string nm1, .slice loa1 lon1 loc1, .slice bda1 bdn1 bdc1, .int .i64 ps1] 69)).alloc (.cells #[.string nm2, .slice loa2 lon2 loc2, .slice bda2 bdn2 bdc2, .int .i64 ps2] 69))) := (((Below.refl _ w).alloc (Nat.le_refl _) _).alloc (by rw [World.size_alloc]; omega) _)
  have O1 := Lib.hid ((Own.new w 69 #[.string nm1, .slice loa1 lon1 loc1, .slice bda1 bdn1 bdc1, .int .i64 ps1]).alloc (.cells #[.string nm2, .slice loa2 lon2 loc2, .slice bda2 bdn2 bdc2, .int .i64 ps2] 69))
  have O2 : Hid (Own ((w.alloc (.cells #[.string nm1, .slice loa1 lon1 loc1, .slice bda1 bdn1 bdc1, .int .i64 ps1] 69)).alloc (.cells #[.string nm2, .slice loa2 lon2 loc2, .slice bda2 bdn2 bdc2, .int .i64 ps2] 69)) (w.heap.size + 1) 69 #[.string nm2, .slice loa2 lon2 loc2, .slice bda2 bdn2 bdc2, .int .i64 ps2]) := by have := Own.new (w.alloc (.cells #[.string nm1, .slice loa1 lon1 loc1, .slice bda1 bdn1 bdc1, .int .i64 ps1] 69)) 69 #[.string nm2, .slice loa2 lon2 loc2, .slice bda2 bdn2 bdc2, .int .i64 ps2]; rw [World.size_alloc] at this; exact this
  go_enter Tryd.func32, Tryd.ntmps32
  go_wp2_with fail
  go_ret
  exact ⟨rfl, HB.out⟩
set_option maxRecDepth 100000 in
set_option maxHeartbeats 4000000 in
theorem same_t_1 {nm1 : ByteArray} {nm2 : ByteArray} {loa1 : Option Addr} {lon1 loc1 : Nat} {loa2 : Option Addr} {lon2 loc2 : Nat} {bda1 : Option Addr} {bdn1 bdc1 : Nat} {bda2 : Option Addr} {bdn2 bdc2 : Nat} {ps1 : Int} {ps2 : Int} (w : World) (q0 : (nm1.toList == nm2.toList) = true) (C1 : ∀ W, Below w.heap.size w W → Calls Tryd.prog 29 #[.slice loa1 lon1 loc1, .slice loa2 lon2 loc2, .func (.func 30) #[] #[]] W fun e w' => e = .returned (.bool false) ∧ Below W.heap.size W w') :
    Calls Tryd.prog 32 #[.agg #[.string nm1, .slice loa1 lon1 loc1, .slice bda1 bdn1 bdc1, .int .i64 ps1], .agg #[.string nm2, .slice loa2 lon2 loc2, .slice bda2 bdn2 bdc2, .int .i64 ps2]] w fun e' w' => e' = .returned (.bool false) ∧ Below w.heap.size w w' := by
  have C1 := Lib.hid C1
  have HB : Hid (Below w.heap.size w ((w.alloc (.cells #[.string nm1, .slice loa1 lon1 loc1, .slice bda1 bdn1 bdc1, .int .i64 ps1] 69)).alloc (.cells #[.string nm2, .slice loa2 lon2 loc2, .slice bda2 bdn2 bdc2, .int .i64 ps2] 69))) := (((Below.refl _ w).alloc (Nat.le_refl _) _).alloc (by rw [World.size_alloc]; omega) _)
  have O1 := Lib.hid ((Own.new w 69 #[.string nm1, .slice loa1 lon1 loc1, .slice bda1 bdn1 bdc1, .int .i64 ps1]).alloc (.cells #[.string nm2, .slice loa2 lon2 loc2, .slice bda2 bdn2 bdc2, .int .i64 ps2] 69))
  have O2 : Hid (Own ((w.alloc (.cells #[.string nm1, .slice loa1 lon1 loc1, .slice bda1 bdn1 bdc1, .int .i64 ps1] 69)).alloc (.cells #[.string nm2, .slice loa2 lon2 loc2, .slice bda2 bdn2 bdc2, .int .i64 ps2] 69)) (w.heap.size + 1) 69 #[.string nm2, .slice loa2 lon2 loc2, .slice bda2 bdn2 bdc2, .int .i64 ps2]) := by have := Own.new (w.alloc (.cells #[.string nm1, .slice loa1 lon1 loc1, .slice bda1 bdn1 bdc1, .int .i64 ps1] 69)) 69 #[.string nm2, .slice loa2 lon2 loc2, .slice bda2 bdn2 bdc2, .int .i64 ps2]; rw [World.size_alloc] at this; exact this
  go_enter Tryd.func32, Tryd.ntmps32
  go_wp2_with fail
  go_at_call 29
  refine (C1.out _ HB.out).mono ?_
  rintro e w3 ⟨rfl, hb3⟩
  have O1 := Lib.hid (O1.out.below hb3)
  have O2 := Lib.hid (O2.out.below hb3)
  have HB := Lib.hid (HB.out.trans (hb3.mono HB.out.size))
  clear hb3
  go_wp2_with fail
  go_ret
  exact ⟨rfl, HB.out⟩
set_option maxRecDepth 100000 in
set_option maxHeartbeats 4000000 in
theorem same_t_2 {nm1 : ByteArray} {nm2 : ByteArray} {loa1 : Option Addr} {lon1 loc1 : Nat} {loa2 : Option Addr} {lon2 loc2 : Nat} {bda1 : Option Addr} {bdn1 bdc1 : Nat} {bda2 : Option Addr} {bdn2 bdc2 : Nat} {ps1 : Int} {ps2 : Int} (w : World) (q0 : (nm1.toList == nm2.toList) = true) (C1 : ∀ W, Below w.heap.size w W → Calls Tryd.prog 29 #[.slice loa1 lon1 loc1, .slice loa2 lon2 loc2, .func (.func 30) #[] #[]] W fun e w' => e = .returned (.bool true) ∧ Below W.heap.size W w') (C2 : ∀ W, Below w.heap.size w W → Calls Tryd.prog 50 #[.slice bda1 bdn1 bdc1, .slice bda2 bdn2 bdc2, .func (.func 51) #[] #[]] W fun e w' => e = .returned (.bool false) ∧ Below W.heap.size W w') :
    Calls Tryd.prog 32 #[.agg #[.string nm1, .slice loa1 lon1 loc1, .slice bda1 bdn1 bdc1, .int .i64 ps1], .agg #[.string nm2, .slice loa2 lon2 loc2, .slice bda2 bdn2 bdc2, .int .i64 ps2]] w fun e' w' => e' = .returned (.bool false) ∧ Below w.heap.size w w' := by
  have C1 := Lib.hid C1
  have C2 := Lib.hid C2
  have HB : Hid (Below w.heap.size w ((w.alloc (.cells #[.string nm1, .slice loa1 lon1 loc1, .slice bda1 bdn1 bdc1, .int .i64 ps1] 69)).alloc (.cells #[.string nm2, .slice loa2 lon2 loc2, .slice bda2 bdn2 bdc2, .int .i64 ps2] 69))) := (((Below.refl _ w).alloc (Nat.le_refl _) _).alloc (by rw [World.size_alloc]; omega) _)
  have O1 := Lib.hid ((Own.new w 69 #[.string nm1, .slice loa1 lon1 loc1, .slice bda1 bdn1 bdc1, .int .i64 ps1]).alloc (.cells #[.string nm2, .slice loa2 lon2 loc2, .slice bda2 bdn2 bdc2, .int .i64 ps2] 69))
  have O2 : Hid (Own ((w.alloc (.cells #[.string nm1, .slice loa1 lon1 loc1, .slice bda1 bdn1 bdc1, .int .i64 ps1] 69)).alloc (.cells #[.string nm2, .slice loa2 lon2 loc2, .slice bda2 bdn2 bdc2, .int .i64 ps2] 69)) (w.heap.size + 1) 69 #[.string nm2, .slice loa2 lon2 loc2, .slice bda2 bdn2 bdc2, .int .i64 ps2]) := by have := Own.new (w.alloc (.cells #[.string nm1, .slice loa1 lon1 loc1, .slice bda1 bdn1 bdc1, .int .i64 ps1] 69)) 69 #[.string nm2, .slice loa2 lon2 loc2, .slice bda2 bdn2 bdc2, .int .i64 ps2]; rw [World.size_alloc] at this; exact this
  go_enter Tryd.func32, Tryd.ntmps32
  go_wp2_with fail
  go_at_call 29
  refine (C1.out _ HB.out).mono ?_
  rintro e w3 ⟨rfl, hb3⟩
  have O1 := Lib.hid (O1.out.below hb3)
  have O2 := Lib.hid (O2.out.below hb3)
  have HB := Lib.hid (HB.out.trans (hb3.mono HB.out.size))
  clear hb3
  have x0_21 : w3.cell? ⟨w.heap.size, 2, none⟩ = some (.slice bda1 bdn1 bdc1) := by rw [cell_of_row _ _ 2 _ _ _ O1.out]; rfl
  have x0_22 : w3.cell? ⟨w.heap.size + 1, 2, none⟩ = some (.slice bda2 bdn2 bdc2) := by rw [cell_of_row _ _ 2 _ _ _ O2.out]; rfl
  go_wp2_with fail
  go_at_call 50
  refine (C2.out _ HB.out).mono ?_
  rintro e w4 ⟨rfl, hb4⟩
  have O1 := Lib.hid (O1.out.below hb4)
  have O2 := Lib.hid (O2.out.below hb4)
  have HB := Lib.hid (HB.out.trans (hb4.mono HB.out.size))
  clear hb4
  go_wp2_with fail
  go_ret
  exact ⟨rfl, HB.out⟩
set_option maxRecDepth 100000 in
set_option maxHeartbeats 4000000 in
theorem same_t_3 {nm1 : ByteArray} {nm2 : ByteArray} {loa1 : Option Addr} {lon1 loc1 : Nat} {loa2 : Option Addr} {lon2 loc2 : Nat} {bda1 : Option Addr} {bdn1 bdc1 : Nat} {bda2 : Option Addr} {bdn2 bdc2 : Nat} {ps1 : Int} {ps2 : Int} (w : World) (q0 : (nm1.toList == nm2.toList) = true) (C1 : ∀ W, Below w.heap.size w W → Calls Tryd.prog 29 #[.slice loa1 lon1 loc1, .slice loa2 lon2 loc2, .func (.func 30) #[] #[]] W fun e w' => e = .returned (.bool true) ∧ Below W.heap.size W w') (C2 : ∀ W, Below w.heap.size w W → Calls Tryd.prog 50 #[.slice bda1 bdn1 bdc1, .slice bda2 bdn2 bdc2, .func (.func 51) #[] #[]] W fun e w' => e = .returned (.bool true) ∧ Below W.heap.size W w') :
    Calls Tryd.prog 32 #[.agg #[.string nm1, .slice loa1 lon1 loc1, .slice bda1 bdn1 bdc1, .int .i64 ps1], .agg #[.string nm2, .slice loa2 lon2 loc2, .slice bda2 bdn2 bdc2, .int .i64 ps2]] w fun e' w' => e' = .returned (.bool true) ∧ Below w.heap.size w w' := by
  have C1 := Lib.hid C1
  have C2 := Lib.hid C2
  have HB : Hid (Below w.heap.size w ((w.alloc (.cells #[.string nm1, .slice loa1 lon1 loc1, .slice bda1 bdn1 bdc1, .int .i64 ps1] 69)).alloc (.cells #[.string nm2, .slice loa2 lon2 loc2, .slice bda2 bdn2 bdc2, .int .i64 ps2] 69))) := (((Below.refl _ w).alloc (Nat.le_refl _) _).alloc (by rw [World.size_alloc]; omega) _)
  have O1 := Lib.hid ((Own.new w 69 #[.string nm1, .slice loa1 lon1 loc1, .slice bda1 bdn1 bdc1, .int .i64 ps1]).alloc (.cells #[.string nm2, .slice loa2 lon2 loc2, .slice bda2 bdn2 bdc2, .int .i64 ps2] 69))
  have O2 : Hid (Own ((w.alloc (.cells #[.string nm1, .slice loa1 lon1 loc1, .slice bda1 bdn1 bdc1, .int .i64 ps1] 69)).alloc (.cells #[.string nm2, .slice loa2 lon2 loc2, .slice bda2 bdn2 bdc2, .int .i64 ps2] 69)) (w.heap.size + 1) 69 #[.string nm2, .slice loa2 lon2 loc2, .slice bda2 bdn2 bdc2, .int .i64 ps2]) := by have := Own.new (w.alloc (.cells #[.string nm1, .slice loa1 lon1 loc1, .slice bda1 bdn1 bdc1, .int .i64 ps1] 69)) 69 #[.string nm2, .slice loa2 lon2 loc2, .slice bda2 bdn2 bdc2, .int .i64 ps2]; rw [World.size_alloc] at this; exact this
  go_enter Tryd.func32, Tryd.ntmps32
  go_wp2_with fail
  go_at_call 29
  refine (C1.out _ HB.out).mono ?_
  rintro e w3 ⟨rfl, hb3⟩
  have O1 := Lib.hid (O1.out.below hb3)
  have O2 := Lib.hid (O2.out.below hb3)
  have HB := Lib.hid (HB.out.trans (hb3.mono HB.out.size))
  clear hb3
  have x0_21 : w3.cell? ⟨w.heap.size, 2, none⟩ = some (.slice bda1 bdn1 bdc1) := by rw [cell_of_row _ _ 2 _ _ _ O1.out]; rfl
  have x0_22 : w3.cell? ⟨w.heap.size + 1, 2, none⟩ = some (.slice bda2 bdn2 bdc2) := by rw [cell_of_row _ _ 2 _ _ _ O2.out]; rfl
  go_wp2_with fail
  go_at_call 50
  refine (C2.out _ HB.out).mono ?_
  rintro e w4 ⟨rfl, hb4⟩
  have O1 := Lib.hid (O1.out.below hb4)
  have O2 := Lib.hid (O2.out.below hb4)
  have HB := Lib.hid (HB.out.trans (hb4.mono HB.out.size))
  clear hb4
  go_wp2_with fail
  go_ret
  exact ⟨rfl, HB.out⟩
set_option maxRecDepth 100000 in
set_option maxHeartbeats 4000000 in
theorem same_p_0 {sha1 : Option Addr} {shn1 shc1 : Nat} {sha2 : Option Addr} {shn2 shc2 : Nat} {lka1 : Option Addr} {lkn1 lkc1 : Nat} {lka2 : Option Addr} {lkn2 lkc2 : Nat} {tha1 : Option Addr} {thn1 thc1 : Nat} {tha2 : Option Addr} {thn2 thc2 : Nat} (w : World) (C0 : ∀ W, Below w.heap.size w W → Calls Tryd.prog 29 #[.slice sha1 shn1 shc1, .slice sha2 shn2 shc2, .func (.func 30) #[] #[]] W fun e w' => e = .returned (.bool false) ∧ Below W.heap.size W w') :
    Calls Tryd.prog 14 #[.agg #[.slice sha1 shn1 shc1, .slice lka1 lkn1 lkc1, .slice tha1 thn1 thc1], .agg #[.slice sha2 shn2 shc2, .slice lka2 lkn2 lkc2, .slice tha2 thn2 thc2]] w fun e' w' => e' = .returned (.bool false) ∧ Below w.heap.size w w' := by
  have C0 := Lib.hid C0
  have HB : Hid (Below w.heap.size w ((w.alloc (.cells #[.slice sha1 shn1 shc1, .slice lka1 lkn1 lkc1, .slice tha1 thn1 thc1] 40)).alloc (.cells #[.slice sha2 shn2 shc2, .slice lka2 lkn2 lkc2, .slice tha2 thn2 thc2] 40))) := (((Below.refl _ w).alloc (Nat.le_refl _) _).alloc (by rw [World.size_alloc]; omega) _)
  have O1 := Lib.hid ((Own.new w 40 #[.slice sha1 shn1 shc1, .slice lka1 lkn1 lkc1, .slice tha1 thn1 thc1]).alloc (.cells #[.slice sha2 shn2 shc2, .slice lka2 lkn2 lkc2, .slice tha2 thn2 thc2] 40))
  have O2 : Hid (Own ((w.alloc (.cells #[.slice sha1 shn1 shc1, .slice lka1 lkn1 lkc1, .slice tha1 thn1 thc1] 40)).alloc (.cells #[.slice sha2 shn2 shc2, .slice lka2 lkn2 lkc2, .slice tha2 thn2 thc2] 40)) (w.heap.size + 1) 40 #[.slice sha2 shn2 shc2, .slice lka2 lkn2 lkc2, .slice tha2 thn2 thc2]) := by have := Own.new (w.alloc (.cells #[.slice sha1 shn1 shc1, .slice lka1 lkn1 lkc1, .slice tha1 thn1 thc1] 40)) 40 #[.slice sha2 shn2 shc2, .slice lka2 lkn2 lkc2, .slice tha2 thn2 thc2]; rw [World.size_alloc] at this; exact this
  go_enter Tryd.func14, Tryd.ntmps14
  go_wp2_with fail
  go_at_call 29
  refine (C0.out _ HB.out).mono ?_
  rintro e w3 ⟨rfl, hb3⟩
  have O1 := Lib.hid (O1.out.below hb3)
  have O2 := Lib.hid (O2.out.below hb3)
  have HB := Lib.hid (HB.out.trans (hb3.mono HB.out.size))
  clear hb3
  go_wp2_with fail
  go_ret
  exact ⟨rfl, HB.out⟩
set_option maxRecDepth 100000 in
set_option maxHeartbeats 4000000 in
theorem same_p_1 {sha1 : Option Addr} {shn1 shc1 : Nat} {sha2 : Option Addr} {shn2 shc2 : Nat} {lka1 : Option Addr} {lkn1 lkc1 : Nat} {lka2 : Option Addr} {lkn2 lkc2 : Nat} {tha1 : Option Addr} {thn1 thc1 : Nat} {tha2 : Option Addr} {thn2 thc2 : Nat} (w : World) (C0 : ∀ W, Below w.heap.size w W → Calls Tryd.prog 29 #[.slice sha1 shn1 shc1, .slice sha2 shn2 shc2, .func (.func 30) #[] #[]] W fun e w' => e = .returned (.bool true) ∧ Below W.heap.size W w') (C1 : ∀ W, Below w.heap.size w W → Calls Tryd.prog 29 #[.slice lka1 lkn1 lkc1, .slice lka2 lkn2 lkc2, .func (.func 30) #[] #[]] W fun e w' => e = .returned (.bool false) ∧ Below W.heap.size W w') :
    Calls Tryd.prog 14 #[.agg #[.slice sha1 shn1 shc1, .slice lka1 lkn1 lkc1, .slice tha1 thn1 thc1], .agg #[.slice sha2 shn2 shc2, .slice lka2 lkn2 lkc2, .slice tha2 thn2 thc2]] w fun e' w' => e' = .returned (.bool false) ∧ Below w.heap.size w w' := by
  have C0 := Lib.hid C0
  have C1 := Lib.hid C1
  have HB : Hid (Below w.heap.size w ((w.alloc (.cells #[.slice sha1 shn1 shc1, .slice lka1 lkn1 lkc1, .slice tha1 thn1 thc1] 40)).alloc (.cells #[.slice sha2 shn2 shc2, .slice lka2 lkn2 lkc2, .slice tha2 thn2 thc2] 40))) := (((Below.refl _ w).alloc (Nat.le_refl _) _).alloc (by rw [World.size_alloc]; omega) _)
  have O1 := Lib.hid ((Own.new w 40 #[.slice sha1 shn1 shc1, .slice lka1 lkn1 lkc1, .slice tha1 thn1 thc1]).alloc (.cells #[.slice sha2 shn2 shc2, .slice lka2 lkn2 lkc2, .slice tha2 thn2 thc2] 40))
  have O2 : Hid (Own ((w.alloc (.cells #[.slice sha1 shn1 shc1, .slice lka1 lkn1 lkc1, .slice tha1 thn1 thc1] 40)).alloc (.cells #[.slice sha2 shn2 shc2, .slice lka2 lkn2 lkc2, .slice tha2 thn2 thc2] 40)) (w.heap.size + 1) 40 #[.slice sha2 shn2 shc2, .slice lka2 lkn2 lkc2, .slice tha2 thn2 thc2]) := by have := Own.new (w.alloc (.cells #[.slice sha1 shn1 shc1, .slice lka1 lkn1 lkc1, .slice tha1 thn1 thc1] 40)) 40 #[.slice sha2 shn2 shc2, .slice lka2 lkn2 lkc2, .slice tha2 thn2 thc2]; rw [World.size_alloc] at this; exact this
  go_enter Tryd.func14, Tryd.ntmps14
  go_wp2_with fail
  go_at_call 29
  refine (C0.out _ HB.out).mono ?_
  rintro e w3 ⟨rfl, hb3⟩
  have O1 := Lib.hid (O1.out.below hb3)
  have O2 := Lib.hid (O2.out.below hb3)
  have HB := Lib.hid (HB.out.trans (hb3.mono HB.out.size))
  clear hb3
  have x0_11 : w3.cell? ⟨w.heap.size, 1, none⟩ = some (.slice lka1 lkn1 lkc1) := by rw [cell_of_row _ _ 1 _ _ _ O1.out]; rfl
  have x0_12 : w3.cell? ⟨w.heap.size + 1, 1, none⟩ = some (.slice lka2 lkn2 lkc2) := by rw [cell_of_row _ _ 1 _ _ _ O2.out]; rfl
  go_wp2_with fail
  go_at_call 29
  refine (C1.out _ HB.out).mono ?_
  rintro e w4 ⟨rfl, hb4⟩
  have O1 := Lib.hid (O1.out.below hb4)
  have O2 := Lib.hid (O2.out.below hb4)
  have HB := Lib.hid (HB.out.trans (hb4.mono HB.out.size))
  clear hb4
  go_wp2_with fail
  go_ret
  exact ⟨rfl, HB.out⟩
set_option maxRecDepth 100000 in
set_option maxHeartbeats 4000000 in
theorem same_p_2 {sha1 : Option Addr} {shn1 shc1 : Nat} {sha2 : Option Addr} {shn2 shc2 : Nat} {lka1 : Option Addr} {lkn1 lkc1 : Nat} {lka2 : Option Addr} {lkn2 lkc2 : Nat} {tha1 : Option Addr} {thn1 thc1 : Nat} {tha2 : Option Addr} {thn2 thc2 : Nat} (w : World) (C0 : ∀ W, Below w.heap.size w W → Calls Tryd.prog 29 #[.slice sha1 shn1 shc1, .slice sha2 shn2 shc2, .func (.func 30) #[] #[]] W fun e w' => e = .returned (.bool true) ∧ Below W.heap.size W w') (C1 : ∀ W, Below w.heap.size w W → Calls Tryd.prog 29 #[.slice lka1 lkn1 lkc1, .slice lka2 lkn2 lkc2, .func (.func 30) #[] #[]] W fun e w' => e = .returned (.bool true) ∧ Below W.heap.size W w') (C2 : ∀ W, Below w.heap.size w W → Calls Tryd.prog 31 #[.slice tha1 thn1 thc1, .slice tha2 thn2 thc2, .func (.func 32) #[] #[]] W fun e w' => e = .returned (.bool false) ∧ Below W.heap.size W w') :
    Calls Tryd.prog 14 #[.agg #[.slice sha1 shn1 shc1, .slice lka1 lkn1 lkc1, .slice tha1 thn1 thc1], .agg #[.slice sha2 shn2 shc2, .slice lka2 lkn2 lkc2, .slice tha2 thn2 thc2]] w fun e' w' => e' = .returned (.bool false) ∧ Below w.heap.size w w' := by
  have C0 := Lib.hid C0
  have C1 := Lib.hid C1
  have C2 := Lib.hid C2
  have HB : Hid (Below w.heap.size w ((w.alloc (.cells #[.slice sha1 shn1 shc1, .slice lka1 lkn1 lkc1, .slice tha1 thn1 thc1] 40)).alloc (.cells #[.slice sha2 shn2 shc2, .slice lka2 lkn2 lkc2, .slice tha2 thn2 thc2] 40))) := (((Below.refl _ w).alloc (Nat.le_refl _) _).alloc (by rw [World.size_alloc]; omega) _)
  have O1 := Lib.hid ((Own.new w 40 #[.slice sha1 shn1 shc1, .slice lka1 lkn1 lkc1, .slice tha1 thn1 thc1]).alloc (.cells #[.slice sha2 shn2 shc2, .slice lka2 lkn2 lkc2, .slice tha2 thn2 thc2] 40))
  have O2 : Hid (Own ((w.alloc (.cells #[.slice sha1 shn1 shc1, .slice lka1 lkn1 lkc1, .slice tha1 thn1 thc1] 40)).alloc (.cells #[.slice sha2 shn2 shc2, .slice lka2 lkn2 lkc2, .slice tha2 thn2 thc2] 40)) (w.heap.size + 1) 40 #[.slice sha2 shn2 shc2, .slice lka2 lkn2 lkc2, .slice tha2 thn2 thc2]) := by have := Own.new (w.alloc (.cells #[.slice sha1 shn1 shc1, .slice lka1 lkn1 lkc1, .slice tha1 thn1 thc1] 40)) 40 #[.slice sha2 shn2 shc2, .slice lka2 lkn2 lkc2, .slice tha2 thn2 thc2]; rw [World.size_alloc] at this; exact this
  go_enter Tryd.func14, Tryd.ntmps14
  go_wp2_with fail
  go_at_call 29
  refine (C0.out _ HB.out).mono ?_
  rintro e w3 ⟨rfl, hb3⟩
  have O1 := Lib.hid (O1.out.below hb3)
  have O2 := Lib.hid (O2.out.below hb3)
  have HB := Lib.hid (HB.out.trans (hb3.mono HB.out.size))
  clear hb3
  have x0_11 : w3.cell? ⟨w.heap.size, 1, none⟩ = some (.slice lka1 lkn1 lkc1) := by rw [cell_of_row _ _ 1 _ _ _ O1.out]; rfl
  have x0_12 : w3.cell? ⟨w.heap.size + 1, 1, none⟩ = some (.slice lka2 lkn2 lkc2) := by rw [cell_of_row _ _ 1 _ _ _ O2.out]; rfl
  have x0_21 : w3.cell? ⟨w.heap.size, 2, none⟩ = some (.slice tha1 thn1 thc1) := by rw [cell_of_row _ _ 2 _ _ _ O1.out]; rfl
  have x0_22 : w3.cell? ⟨w.heap.size + 1, 2, none⟩ = some (.slice tha2 thn2 thc2) := by rw [cell_of_row _ _ 2 _ _ _ O2.out]; rfl
  go_wp2_with fail
  go_at_call 29
  refine (C1.out _ HB.out).mono ?_
  rintro e w4 ⟨rfl, hb4⟩
  have O1 := Lib.hid (O1.out.below hb4)
  have O2 := Lib.hid (O2.out.below hb4)
  have HB := Lib.hid (HB.out.trans (hb4.mono HB.out.size))
  clear hb4
  have x1_21 : w4.cell? ⟨w.heap.size, 2, none⟩ = some (.slice tha1 thn1 thc1) := by rw [cell_of_row _ _ 2 _ _ _ O1.out]; rfl
  have x1_22 : w4.cell? ⟨w.heap.size + 1, 2, none⟩ = some (.slice tha2 thn2 thc2) := by rw [cell_of_row _ _ 2 _ _ _ O2.out]; rfl
  go_wp2_with fail
  go_at_call 31
  refine (C2.out _ HB.out).mono ?_
  rintro e w5 ⟨rfl, hb5⟩
  have O1 := Lib.hid (O1.out.below hb5)
  have O2 := Lib.hid (O2.out.below hb5)
  have HB := Lib.hid (HB.out.trans (hb5.mono HB.out.size))
  clear hb5
  go_wp2_with fail
  go_ret
  exact ⟨rfl, HB.out⟩
set_option maxRecDepth 100000 in
set_option maxHeartbeats 4000000 in
theorem same_p_3 {sha1 : Option Addr} {shn1 shc1 : Nat} {sha2 : Option Addr} {shn2 shc2 : Nat} {lka1 : Option Addr} {lkn1 lkc1 : Nat} {lka2 : Option Addr} {lkn2 lkc2 : Nat} {tha1 : Option Addr} {thn1 thc1 : Nat} {tha2 : Option Addr} {thn2 thc2 : Nat} (w : World) (C0 : ∀ W, Below w.heap.size w W → Calls Tryd.prog 29 #[.slice sha1 shn1 shc1, .slice sha2 shn2 shc2, .func (.func 30) #[] #[]] W fun e w' => e = .returned (.bool true) ∧ Below W.heap.size W w') (C1 : ∀ W, Below w.heap.size w W → Calls Tryd.prog 29 #[.slice lka1 lkn1 lkc1, .slice lka2 lkn2 lkc2, .func (.func 30) #[] #[]] W fun e w' => e = .returned (.bool true) ∧ Below W.heap.size W w') (C2 : ∀ W, Below w.heap.size w W → Calls Tryd.prog 31 #[.slice tha1 thn1 thc1, .slice tha2 thn2 thc2, .func (.func 32) #[] #[]] W fun e w' => e = .returned (.bool true) ∧ Below W.heap.size W w') :
    Calls Tryd.prog 14 #[.agg #[.slice sha1 shn1 shc1, .slice lka1 lkn1 lkc1, .slice tha1 thn1 thc1], .agg #[.slice sha2 shn2 shc2, .slice lka2 lkn2 lkc2, .slice tha2 thn2 thc2]] w fun e' w' => e' = .returned (.bool true) ∧ Below w.heap.size w w' := by
  have C0 := Lib.hid C0
  have C1 := Lib.hid C1
  have C2 := Lib.hid C2
  have HB : Hid (Below w.heap.size w ((w.alloc (.cells #[.slice sha1 shn1 shc1, .slice lka1 lkn1 lkc1, .slice tha1 thn1 thc1] 40)).alloc (.cells #[.slice sha2 shn2 shc2, .slice lka2 lkn2 lkc2, .slice tha2 thn2 thc2] 40))) := (((Below.refl _ w).alloc (Nat.le_refl _) _).alloc (by rw [World.size_alloc]; omega) _)
  have O1 := Lib.hid ((Own.new w 40 #[.slice sha1 shn1 shc1, .slice lka1 lkn1 lkc1, .slice tha1 thn1 thc1]).alloc (.cells #[.slice sha2 shn2 shc2, .slice lka2 lkn2 lkc2, .slice tha2 thn2 thc2] 40))
  have O2 : Hid (Own ((w.alloc (.cells #[.slice sha1 shn1 shc1, .slice lka1 lkn1 lkc1, .slice tha1 thn1 thc1] 40)).alloc (.cells #[.slice sha2 shn2 shc2, .slice lka2 lkn2 lkc2, .slice tha2 thn2 thc2] 40)) (w.heap.size + 1) 40 #[.slice sha2 shn2 shc2, .slice lka2 lkn2 lkc2, .slice tha2 thn2 thc2]) := by have := Own.new (w.alloc (.cells #[.slice sha1 shn1 shc1, .slice lka1 lkn1 lkc1, .slice tha1 thn1 thc1] 40)) 40 #[.slice sha2 shn2 shc2, .slice lka2 lkn2 lkc2, .slice tha2 thn2 thc2]; rw [World.size_alloc] at this; exact this
  go_enter Tryd.func14, Tryd.ntmps14
  go_wp2_with fail
  go_at_call 29
  refine (C0.out _ HB.out).mono ?_
  rintro e w3 ⟨rfl, hb3⟩
  have O1 := Lib.hid (O1.out.below hb3)
  have O2 := Lib.hid (O2.out.below hb3)
  have HB := Lib.hid (HB.out.trans (hb3.mono HB.out.size))
  clear hb3
  have x0_11 : w3.cell? ⟨w.heap.size, 1, none⟩ = some (.slice lka1 lkn1 lkc1) := by rw [cell_of_row _ _ 1 _ _ _ O1.out]; rfl
  have x0_12 : w3.cell? ⟨w.heap.size + 1, 1, none⟩ = some (.slice lka2 lkn2 lkc2) := by rw [cell_of_row _ _ 1 _ _ _ O2.out]; rfl
  have x0_21 : w3.cell? ⟨w.heap.size, 2, none⟩ = some (.slice tha1 thn1 thc1) := by rw [cell_of_row _ _ 2 _ _ _ O1.out]; rfl
  have x0_22 : w3.cell? ⟨w.heap.size + 1, 2, none⟩ = some (.slice tha2 thn2 thc2) := by rw [cell_of_row _ _ 2 _ _ _ O2.out]; rfl
  go_wp2_with fail
  go_at_call 29
  refine (C1.out _ HB.out).mono ?_
  rintro e w4 ⟨rfl, hb4⟩
  have O1 := Lib.hid (O1.out.below hb4)
  have O2 := Lib.hid (O2.out.below hb4)
  have HB := Lib.hid (HB.out.trans (hb4.mono HB.out.size))
  clear hb4
  have x1_21 : w4.cell? ⟨w.heap.size, 2, none⟩ = some (.slice tha1 thn1 thc1) := by rw [cell_of_row _ _ 2 _ _ _ O1.out]; rfl
  have x1_22 : w4.cell? ⟨w.heap.size + 1, 2, none⟩ = some (.slice tha2 thn2 thc2) := by rw [cell_of_row _ _ 2 _ _ _ O2.out]; rfl
  go_wp2_with fail
  go_at_call 31
  refine (C2.out _ HB.out).mono ?_
  rintro e w5 ⟨rfl, hb5⟩
  have O1 := Lib.hid (O1.out.below hb5)
  have O2 := Lib.hid (O2.out.below hb5)
  have HB := Lib.hid (HB.out.trans (hb5.mono HB.out.size))
  clear hb5
  go_wp2_with fail
  go_ret
  exact ⟨rfl, HB.out⟩
end Go.Proofs.YtjpmdafaaonpoaaDoor

namespace Go.Proofs.YtjpmdafaaonpoaaDoor
open Go.RowKit
set_option linter.unusedVariables false
theorem same_d_all {nm1 : ByteArray} {nm2 : ByteArray} {wd1 : Int} {wd2 : Int} {ps1 : Int} {ps2 : Int} {b0 b1 : Bool} (w : World) (q0 : (nm1.toList == nm2.toList) = b0) (q1 : (wd1 == wd2) = b1) :
    Calls Tryd.prog 30 #[.agg #[.string nm1, .int .i64 wd1, .int .i64 ps1], .agg #[.string nm2, .int .i64 wd2, .int .i64 ps2]] w fun e' w' => e' = .returned (.bool (b0 && b1)) ∧ Below w.heap.size w w' := by
  cases b0 with
  | false => exact same_d_0 w q0
  | true =>
    cases b1 with
    | false => exact same_d_1 w q0 q1
    | true =>
      exact same_d_2 w q0 q1
theorem same_s_all {k1 : Int} {k2 : Int} {nm1 : ByteArray} {nm2 : ByteArray} {ot1 : ByteArray} {ot2 : ByteArray} {ea1 : Option Addr} {en1 ec1 : Nat} {ea2 : Option Addr} {en2 ec2 : Nat} {bda1 : Option Addr} {bdn1 bdc1 : Nat} {bda2 : Option Addr} {bdn2 bdc2 : Nat} {ela1 : Option Addr} {eln1 elc1 : Nat} {ela2 : Option Addr} {eln2 elc2 : Nat} {ps1 : Int} {ps2 : Int} {b0 b1 b2 b3 b4 b5 : Bool} (w : World) (q0 : (k1 == k2) = b0) (q1 : (nm1.toList == nm2.toList) = b1) (q2 : (ot1.toList == ot2.toList) = b2) (C3 : ∀ W, Below w.heap.size w W → Calls Tryd.prog 33 #[.slice ea1 en1 ec1, .slice ea2 en2 ec2, .func (.func 15) #[] #[]] W fun e w' => e = .returned (.bool b3) ∧ Below W.heap.size W w') (C4 : ∀ W, Below w.heap.size w W → Calls Tryd.prog 50 #[.slice bda1 bdn1 bdc1, .slice bda2 bdn2 bdc2, .func (.func 51) #[] #[]] W fun e w' => e = .returned (.bool b4) ∧ Below W.heap.size W w') (C5 : ∀ W, Below w.heap.size w W → Calls Tryd.prog 50 #[.slice ela1 eln1 elc1, .slice ela2 eln2 elc2, .func (.func 51) #[] #[]] W fun e w' => e = .returned (.bool b5) ∧ Below W.heap.size W w') :
    Calls Tryd.prog 51 #[.agg #[.int .u8 k1, .string nm1, .string ot1, .slice ea1 en1 ec1, .slice bda1 bdn1 bdc1, .slice ela1 eln1 elc1, .int .i64 ps1], .agg #[.int .u8 k2, .string nm2, .string ot2, .slice ea2 en2 ec2, .slice bda2 bdn2 bdc2, .slice ela2 eln2 elc2, .int .i64 ps2]] w fun e' w' => e' = .returned (.bool (b0 && b1 && b2 && b3 && b4 && b5)) ∧ Below w.heap.size w w' := by
  cases b0 with
  | false => exact same_s_0 w q0
  | true =>
    cases b1 with
    | false => exact same_s_1 w q0 q1
    | true =>
      cases b2 with
      | false => exact same_s_2 w q0 q1 q2
      | true =>
        cases b3 with
        | false => exact same_s_3 w q0 q1 q2 C3
        | true =>
          cases b4 with
          | false => exact same_s_4 w q0 q1 q2 C3 C4
          | true =>
            cases b5 with
            | false => exact same_s_5 w q0 q1 q2 C3 C4 C5
            | true =>
              exact same_s_6 w q0 q1 q2 C3 C4 C5
theorem same_t_all {nm1 : ByteArray} {nm2 : ByteArray} {loa1 : Option Addr} {lon1 loc1 : Nat} {loa2 : Option Addr} {lon2 loc2 : Nat} {bda1 : Option Addr} {bdn1 bdc1 : Nat} {bda2 : Option Addr} {bdn2 bdc2 : Nat} {ps1 : Int} {ps2 : Int} {b0 b1 b2 : Bool} (w : World) (q0 : (nm1.toList == nm2.toList) = b0) (C1 : ∀ W, Below w.heap.size w W → Calls Tryd.prog 29 #[.slice loa1 lon1 loc1, .slice loa2 lon2 loc2, .func (.func 30) #[] #[]] W fun e w' => e = .returned (.bool b1) ∧ Below W.heap.size W w') (C2 : ∀ W, Below w.heap.size w W → Calls Tryd.prog 50 #[.slice bda1 bdn1 bdc1, .slice bda2 bdn2 bdc2, .func (.func 51) #[] #[]] W fun e w' => e = .returned (.bool b2) ∧ Below W.heap.size W w') :
    Calls Tryd.prog 32 #[.agg #[.string nm1, .slice loa1 lon1 loc1, .slice bda1 bdn1 bdc1, .int .i64 ps1], .agg #[.string nm2, .slice loa2 lon2 loc2, .slice bda2 bdn2 bdc2, .int .i64 ps2]] w fun e' w' => e' = .returned (.bool (b0 && b1 && b2)) ∧ Below w.heap.size w w' := by
  cases b0 with
  | false => exact same_t_0 w q0
  | true =>
    cases b1 with
    | false => exact same_t_1 w q0 C1
    | true =>
      cases b2 with
      | false => exact same_t_2 w q0 C1 C2
      | true =>
        exact same_t_3 w q0 C1 C2
theorem same_p_all {sha1 : Option Addr} {shn1 shc1 : Nat} {sha2 : Option Addr} {shn2 shc2 : Nat} {lka1 : Option Addr} {lkn1 lkc1 : Nat} {lka2 : Option Addr} {lkn2 lkc2 : Nat} {tha1 : Option Addr} {thn1 thc1 : Nat} {tha2 : Option Addr} {thn2 thc2 : Nat} {b0 b1 b2 : Bool} (w : World) (C0 : ∀ W, Below w.heap.size w W → Calls Tryd.prog 29 #[.slice sha1 shn1 shc1, .slice sha2 shn2 shc2, .func (.func 30) #[] #[]] W fun e w' => e = .returned (.bool b0) ∧ Below W.heap.size W w') (C1 : ∀ W, Below w.heap.size w W → Calls Tryd.prog 29 #[.slice lka1 lkn1 lkc1, .slice lka2 lkn2 lkc2, .func (.func 30) #[] #[]] W fun e w' => e = .returned (.bool b1) ∧ Below W.heap.size W w') (C2 : ∀ W, Below w.heap.size w W → Calls Tryd.prog 31 #[.slice tha1 thn1 thc1, .slice tha2 thn2 thc2, .func (.func 32) #[] #[]] W fun e w' => e = .returned (.bool b2) ∧ Below W.heap.size W w') :
    Calls Tryd.prog 14 #[.agg #[.slice sha1 shn1 shc1, .slice lka1 lkn1 lkc1, .slice tha1 thn1 thc1], .agg #[.slice sha2 shn2 shc2, .slice lka2 lkn2 lkc2, .slice tha2 thn2 thc2]] w fun e' w' => e' = .returned (.bool (b0 && b1 && b2)) ∧ Below w.heap.size w w' := by
  cases b0 with
  | false => exact same_p_0 w C0
  | true =>
    cases b1 with
    | false => exact same_p_1 w C0 C1
    | true =>
      cases b2 with
      | false => exact same_p_2 w C0 C1 C2
      | true =>
        exact same_p_3 w C0 C1 C2
def sameD (a b : Dc) : Bool := a.name.data.toList == b.name.data.toList && a.wd == b.wd
mutual
def sameS : St → St → Bool
  | .mk k n o e b l _, .mk k' n' o' e' b' l' _ => k == k' && n.data.toList == n'.data.toList && o.data.toList == o'.data.toList && sameEs e e' && sameSs b b' && sameSs l l'
def sameSs : List St → List St → Bool
  | [], [] => true
  | x :: r, y :: s => sameS x y && sameSs r s
  | _, _ => false
end
theorem sameBy_st : ∀ l m : List St, sameBy sameS l m = sameSs l m
  | [], [] => by simp [sameBy, sameSs]
  | [], _ :: _ => by simp [sameBy, sameSs]
  | _ :: _, [] => by simp [sameBy, sameSs]
  | x :: r, y :: s => by simp only [sameBy, sameSs]; rw [sameBy_st r s]
def sameT (a b : Th) : Bool := a.name.data.toList == b.name.data.toList && sameBy sameD a.locals b.locals && sameSs a.body b.body
def samePg (a b : Pg) : Bool := sameBy sameD a.shared b.shared && sameBy sameD a.locks b.locks && sameBy sameT a.threads b.threads
mutual
/-- Its lists are short. -/
def okS : St → Prop
  | .mk _ _ _ e b l _ => (e.length ≤ 65536 ∧ okEs e) ∧ (b.length ≤ 65536 ∧ okSs b) ∧ l.length ≤ 65536 ∧ okSs l
def okSs : List St → Prop
  | [] => True
  | x :: r => okS x ∧ okSs r
end
theorem okSs_mem : ∀ {l : List St}, okSs l → ∀ x ∈ l, okS x
  | [], _, x, hx => by simp at hx
  | y :: r, h, x, hx => by
    rcases List.mem_cons.1 hx with rfl | hx
    · exact h.1
    · exact okSs_mem h.2 x hx
def okT (t : Th) : Prop := t.locals.length ≤ 65536 ∧ t.body.length ≤ 65536 ∧ okSs t.body
def okP (p : Pg) : Prop := p.shared.length ≤ 65536 ∧ p.locks.length ≤ 65536 ∧ p.threads.length ≤ 65536 ∧ ∀ t ∈ p.threads, okT t
theorem toList_eq (a b : ByteArray) : (a.toList == b.toList) = (a.data.toList == b.data.toList) := by rw [Lib.toList_data, Lib.toList_data]
theorem p_sameD (x y : Dc) (v u : Value) (w : World) (hv : dA w x v) (hu : dA w y u) : Calls Tryd.prog 30 #[v, u] w fun e' w' => e' = .returned (.bool (sameD x y)) ∧ Below w.heap.size w w' := by
  subst hv hu
  exact same_d_all w (toList_eq _ _) rfl
theorem p_sameS : ∀ s : St, okS s → ∀ (y : St) (v u : Value) (w : World), sA w s v → sA w y u → Calls Tryd.prog 51 #[v, u] w fun e' w' => e' = .returned (.bool (sameS s y)) ∧ Below w.heap.size w w' := by
  intro s
  induction s using St.ind with
  | h k n o e b l p ihb ihl =>
    intro hok y v u w hv hu
    obtain ⟨k', n', o', e', b', l', p'⟩ := y
    obtain ⟨ea1, ec1, ba1, bc1, la1, lc1, rfl, he1, hb1, hl1⟩ := hv
    obtain ⟨ea2, ec2, ba2, bc2, la2, lc2, rfl, he2, hb2, hl2⟩ := hu
    have e0 : sameS (.mk k n o e b l p) (.mk k' n' o' e' b' l' p') = (k == k' && n.data.toList == n'.data.toList && o.data.toList == o'.data.toList && sameEs e e' && sameSs b b' && sameSs l l') := by simp only [sameS]
    rw [e0]
    obtain ⟨⟨k1, k2⟩, ⟨k3, k4⟩, k5, k6⟩ := hok
    exact same_s_all w rfl (toList_eq _ _) (toList_eq _ _) (fun W hb => equal_ex (fun x _ => p_same x) k2 k1 (exsAt_below he1 hb) (exsAt_below he2 hb))
      (fun W hb => by rw [← sameBy_st]; exact equal_s (fun x hx => ihb x hx (okSs_mem k4 x hx)) k3 (stsAt_below hb1 hb) (stsAt_below hb2 hb))
      (fun W hb => by rw [← sameBy_st]; exact equal_s (fun x hx => ihl x hx (okSs_mem k6 x hx)) k5 (stsAt_below hl1 hb) (stsAt_below hl2 hb))
theorem p_sameT (x : Th) (hok : okT x) (y : Th) (v u : Value) (w : World) (hv : tA w x v) (hu : tA w y u) : Calls Tryd.prog 32 #[v, u] w fun e' w' => e' = .returned (.bool (sameT x y)) ∧ Below w.heap.size w w' := by
  obtain ⟨la1, lc1, ba1, bc1, rfl, hl1, hb1⟩ := hv
  obtain ⟨la2, lc2, ba2, bc2, rfl, hl2, hb2⟩ := hu
  exact same_t_all w (toList_eq _ _) (fun W hb => equal_d (fun x _ => p_sameD x) hok.1 (dcsAt_below hl1 hb) (dcsAt_below hl2 hb))
    (fun W hb => by rw [← sameBy_st]; exact equal_s (fun x hx => p_sameS x (okSs_mem hok.2.2 x hx)) hok.2.1 (stsAt_below hb1 hb) (stsAt_below hb2 hb))
/-- A program's value, wherever its parts lie. -/
def pA (w : World) (x : Pg) (v : Value) : Prop := ∃ a1 c1 a2 c2 a3 c3, v = .agg #[.slice a1 x.shared.length c1, .slice a2 x.locks.length c2, .slice a3 x.threads.length c3] ∧ dcsAt (fun _ => True) w x.shared a1 ∧ dcsAt (fun _ => True) w x.locks a2 ∧ thsAt (fun _ => True) w x.threads a3
theorem pA_of {n : Nat} {w : World} {x : Pg} {v : Value} (h : pgR n x v w) : pA w x v := by
  obtain ⟨a1, c1, a2, c2, a3, c3, h0, h1, h2, h3⟩ := h
  exact ⟨a1, c1, a2, c2, a3, c3, h0, dcsAt_mono h1 (fun _ _ => trivial), dcsAt_mono h2 (fun _ _ => trivial), thsAt_stays (Stays.refl _ w) (fun _ _ => trivial) h3⟩
theorem pA_below {w w' : World} {x : Pg} {v : Value} (h : pA w x v) (hb : Below w.heap.size w w') : pA w' x v := by
  obtain ⟨a1, c1, a2, c2, a3, c3, h0, h1, h2, h3⟩ := h
  exact ⟨a1, c1, a2, c2, a3, c3, h0, dcsAt_below h1 hb, dcsAt_below h2 hb, thsAt_below h3 hb⟩
theorem p_Same (x : Pg) (hok : okP x) (y : Pg) (v u : Value) (w : World) (hv : pA w x v) (hu : pA w y u) : Calls Tryd.prog 14 #[v, u] w fun e' w' => e' = .returned (.bool (samePg x y)) ∧ Below w.heap.size w w' := by
  obtain ⟨a1, c1, a2, c2, a3, c3, rfl, h1, h2, h3⟩ := hv
  obtain ⟨b1, d1, b2, d2, b3, d3, rfl, g1, g2, g3⟩ := hu
  exact same_p_all w (fun W hb => equal_d (fun x _ => p_sameD x) hok.1 (dcsAt_below h1 hb) (dcsAt_below g1 hb)) (fun W hb => equal_d (fun x _ => p_sameD x) hok.2.1 (dcsAt_below h2 hb) (dcsAt_below g2 hb))
    (fun W hb => equal_t (fun x hx => p_sameT x (hok.2.2.2 x hx)) hok.2.2.1 (thsAt_below h3 hb) (thsAt_below g3 hb))
end Go.Proofs.YtjpmdafaaonpoaaDoor

namespace Go.Proofs.YtjpmdafaaonpoaaDoor
set_option linter.unusedVariables false
section
variable {fnd : Bs → Int × Bool} {L : Int}
theorem binE_ok {n : Nat} {v d : Int} {ts : List Tk} {e : Ex} {r : List Tk} (h : binE fnd L n v d ts = .ok e r) : okE e := (expr_ok n).2.1 _ _ _ _ _ h
theorem okEs_one {e : Ex} (h : okE e) : [e].length ≤ 65536 ∧ okEs [e] := ⟨by simp, h, trivial⟩
theorem okEs_nil : ([] : List Ex).length ≤ 65536 ∧ okEs [] := ⟨by simp, trivial⟩
theorem okSs_nil : ([] : List St).length ≤ 65536 ∧ okSs [] := ⟨by simp, trivial⟩
theorem okSs_snoc : ∀ {l : List St} {s : St}, okSs l → okS s → okSs (l ++ [s])
  | [], s, _, hs => ⟨hs, trivial⟩
  | x :: r, s, h, hs => ⟨h.1, okSs_snoc h.2 hs⟩
theorem paren_ok {n : Nat} {ts : List Tk} {e : Ex} {r : List Tk} (h : parenP fnd L n ts = .ok e r) : okE e := by
  unfold parenP at h
  obtain ⟨u1, b1, h1, h2⟩ := PR.then_eq_ok h
  obtain ⟨u2, b2, h3, h4⟩ := PR.then_eq_ok h2
  obtain ⟨u3, b3, h5, h6⟩ := PR.then_eq_ok h4
  cases h6
  exact binE_ok h3
theorem change_ok {n : Nat} {t : Tk} {ts : List Tk} {s : St} {r : List Tk} (h : changeP fnd L n t ts = .ok s r) : okS s := by
  unfold changeP at h
  obtain ⟨u, b, h1, h2⟩ := PR.then_eq_ok h
  split at h2
  · obtain ⟨u1, b1, h3, h4⟩ := PR.then_eq_ok h2
    obtain ⟨u2, b2, h5, h6⟩ := PR.then_eq_ok h4
    obtain ⟨u3, b3, h7, h8⟩ := PR.then_eq_ok h6
    obtain ⟨u4, b4, h9, h10⟩ := PR.then_eq_ok h8
    obtain ⟨u5, b5, h11, h12⟩ := PR.then_eq_ok h10
    obtain ⟨u6, b6, h13, h14⟩ := PR.then_eq_ok h12
    cases h14
    exact ⟨okEs_one (binE_ok h9), okSs_nil, okSs_nil⟩
  · obtain ⟨u4, b4, h9, h10⟩ := PR.then_eq_ok h2
    obtain ⟨u5, b5, h11, h12⟩ := PR.then_eq_ok h10
    cases h12
    exact ⟨okEs_one (binE_ok h9), okSs_nil, okSs_nil⟩
theorem stmt_ok : ∀ n : Nat,
    (∀ d ts s r, stmtP fnd L n d ts = .ok s r → ts.length ≤ 65536 → okS s) ∧
    (∀ d acc ts l r, restP fnd L n d acc ts = .ok l r → ts.length ≤ 65536 → okSs acc → okSs l ∧ l.length + r.length ≤ acc.length + ts.length) := by
  intro n
  induction n with
  | zero => exact ⟨fun d ts s r h => by simp [stmtP] at h, fun d acc ts l r h => by simp [restP] at h⟩
  | succ n ih =>
    obtain ⟨i1, i2⟩ := ih
    refine ⟨fun d ts s r h hl => ?_, fun d acc ts l r h hl ha => ?_⟩
    · cases ts with
      | nil => simp [stmtP] at h
      | cons t q =>
        simp only [stmtP] at h
        rw [List.length_cons] at hl
        have blk : ∀ {d : Int} {ts : List Tk} {l : List St} {r : List Tk}, restP fnd L n d [] ts = .ok l r → ts.length ≤ 65536 → l.length ≤ 65536 ∧ okSs l := fun h hl => by
          have := i2 _ _ _ _ _ h hl trivial
          exact ⟨by have := this.2; simp at this; omega, this.1⟩
        split at h
        · exact change_ok h
        split at h
        · obtain ⟨u1, b1, h1, h2⟩ := PR.then_eq_ok h
          obtain ⟨u2, b2, h3, h4⟩ := PR.then_eq_ok h2
          obtain ⟨u3, b3, h5, h6⟩ := PR.then_eq_ok h4
          have := paren_short h1
          have := open_short h3
          have := restP_short h5
          split at h6
          · rename_i hi
            have := isT_tail hi
            obtain ⟨u4, b4, h7, h8⟩ := PR.then_eq_ok h6
            obtain ⟨u5, b5, h9, h10⟩ := PR.then_eq_ok h8
            have := open_short h7
            cases h10
            exact ⟨okEs_one (paren_ok h1), blk h5 (by omega), blk h9 (by omega)⟩
          · cases h6
            exact ⟨okEs_one (paren_ok h1), blk h5 (by omega), okSs_nil⟩
        split at h
        · obtain ⟨u1, b1, h1, h2⟩ := PR.then_eq_ok h
          obtain ⟨u2, b2, h3, h4⟩ := PR.then_eq_ok h2
          obtain ⟨u3, b3, h5, h6⟩ := PR.then_eq_ok h4
          have := paren_short h1
          have := open_short h3
          cases h6
          exact ⟨okEs_one (paren_ok h1), blk h5 (by omega), okSs_nil⟩
        split at h
        · obtain ⟨u1, b1, h1, h2⟩ := PR.then_eq_ok h
          obtain ⟨u2, b2, h3, h4⟩ := PR.then_eq_ok h2
          obtain ⟨u3, b3, h5, h6⟩ := PR.then_eq_ok h4
          have := name_ok h1
          have := open_short h3
          cases h6
          exact ⟨okEs_nil, blk h5 (by omega), okSs_nil⟩
        split at h
        · obtain ⟨u1, b1, h1, h2⟩ := PR.then_eq_ok h
          obtain ⟨u2, b2, h3, h4⟩ := PR.then_eq_ok h2
          cases h4
          exact ⟨okEs_one (binE_ok h1), okSs_nil, okSs_nil⟩
        split at h
        · obtain ⟨u1, b1, h1, h2⟩ := PR.then_eq_ok h
          cases h2
          exact ⟨okEs_nil, okSs_nil, okSs_nil⟩
        · cases h
    · simp only [restP] at h
      split at h
      · rename_i hi
        cases h
        have := isT_tail hi
        exact ⟨ha, by omega⟩
      · obtain ⟨a, b, h1, h2⟩ := PR.then_eq_ok h
        have k1 := stmtP_short h1
        have k2 := i1 _ _ _ _ h1 hl
        have k3 := i2 _ _ _ _ _ h2 (by omega) (okSs_snoc ha k2)
        refine ⟨k3.1, ?_⟩
        have := k3.2
        rw [List.length_append, List.length_singleton] at this
        omega
theorem locals_ok : ∀ (n : Nat) (acc : List Dc) (ts : List Tk) (l : List Dc) (r : List Tk), localsP L n acc ts = .ok l r → l.length + r.length ≤ acc.length + ts.length
  | 0, acc, ts, l, r, h => by simp [localsP] at h
  | n + 1, acc, ts, l, r, h => by
    simp only [localsP] at h
    split at h
    · rename_i hi
      have := isT_tail hi
      obtain ⟨a, b, h1, h2⟩ := PR.then_eq_ok h
      have k1 := list_both (fun _ _ _ => nameP_short) h1
      have k2 := locals_ok n _ _ _ _ h2
      rw [List.length_append] at k2
      simp at k1
      omega
    · cases h; exact Nat.le_refl _
theorem thread_ok {n : Nat} {ts : List Tk} {t : Th} {r : List Tk} (h : threadP fnd L n ts = .ok t r) (hl : ts.length ≤ 65536) : okT t := by
  unfold threadP at h
  obtain ⟨u1, b1, h1, h2⟩ := PR.then_eq_ok h
  obtain ⟨u2, b2, h3, h4⟩ := PR.then_eq_ok h2
  obtain ⟨u3, b3, h5, h6⟩ := PR.then_eq_ok h4
  obtain ⟨u4, b4, h7, h8⟩ := PR.then_eq_ok h6
  cases h8
  have := name_ok h1
  have := open_short h3
  have k1 := locals_ok _ _ _ _ _ h5
  have k2 := (stmt_ok n).2 _ _ _ _ _ h7 (by simp at k1; omega) trivial
  simp at k1
  have k3 := k2.2
  simp at k3
  exact ⟨by show u3.length ≤ 65536; omega, by show u4.length ≤ 65536; omega, k2.1⟩
theorem threads_ok : ∀ (n : Nat) (acc : List Th) (ts : List Tk) (l : List Th) (r : List Tk), threadsP fnd L n acc ts = .ok l r → ts.length ≤ 65536 → (∀ t ∈ acc, okT t) → (∀ t ∈ l, okT t) ∧ l.length + r.length ≤ acc.length + ts.length
  | 0, acc, ts, l, r, h, _, _ => by simp [threadsP] at h
  | n + 1, acc, ts, l, r, h, hl, ha => by
    simp only [threadsP] at h
    split at h
    · rename_i hi
      have := isT_tail hi
      obtain ⟨a, b, h1, h2⟩ := PR.then_eq_ok h
      have k1 := thread_short h1
      have k2 := thread_ok h1 (by omega)
      have k3 := threads_ok n _ _ _ _ h2 (by omega) (fun t ht => by
        rcases List.mem_append.1 ht with ht | ht
        · exact ha t ht
        · rw [List.mem_singleton] at ht; rw [ht]; exact k2)
      refine ⟨k3.1, ?_⟩
      have := k3.2
      rw [List.length_append, List.length_singleton] at this
      omega
    · cases h; exact ⟨ha, Nat.le_refl _⟩
theorem decls_ok : ∀ (n : Nat) (p : Pg) (ts : List Tk) (q : Pg) (r : List Tk), declsP L n p ts = .ok q r → q.shared.length + q.locks.length + r.length ≤ p.shared.length + p.locks.length + ts.length
  | 0, p, ts, q, r, h => by simp [declsP] at h
  | n + 1, p, ts, q, r, h => by
    simp only [declsP] at h
    split at h
    · rename_i hi
      have := isT_tail hi
      obtain ⟨a, b, h1, h2⟩ := PR.then_eq_ok h
      have k1 := list_both (fun _ _ _ => firstP_short) h1
      have k2 := decls_ok n _ _ _ _ h2
      simp only [List.length_append] at k2
      simp at k1
      omega
    · split at h
      · rename_i hi
        have := isT_tail hi
        obtain ⟨a, b, h1, h2⟩ := PR.then_eq_ok h
        have k1 := list_both (fun _ _ _ => nameP_short) h1
        have k2 := decls_ok n _ _ _ _ h2
        simp only [List.length_append] at k2
        simp at k1
        omega
      · cases h; exact Nat.le_refl _
theorem prog_ok {n : Nat} {ts : List Tk} {p : Pg} {r : List Tk} (h : progP fnd L n ts = .ok p r) (hl : ts.length ≤ 65536) : okP p := by
  unfold progP at h
  obtain ⟨q, b, h1, h2⟩ := PR.then_eq_ok h
  obtain ⟨l, b2, h3, h4⟩ := PR.then_eq_ok h2
  cases h4
  have k1 := decls_ok _ _ _ _ _ h1
  simp at k1
  have k2 := threads_ok _ _ _ _ _ h3 (by omega) (fun t ht => by cases ht)
  have k3 := k2.2
  simp at k3
  exact ⟨by show q.shared.length ≤ 65536; omega, by show q.locks.length ≤ 65536; omega, by show l.length ≤ 65536; omega, k2.1⟩
end
theorem bare_sameS : ∀ (s y : St), s.bare = y.bare → sameS s y = true := by
  intro s
  induction s using St.ind with
  | h k n o e b l p ihb ihl =>
    intro y hy
    obtain ⟨k', n', o', e', b', l', p'⟩ := y
    simp only [St.bare, St.mk.injEq] at hy
    obtain ⟨rfl, rfl, rfl, he, hb, hl, _⟩ := hy
    simp only [sameS, beq_self_eq_true, Bool.true_and, Bool.and_eq_true]
    have ex : ∀ (l m : List Ex), exsBare l = exsBare m → sameEs l m = true := by
      intro l
      induction l with
      | nil => intro m hm; cases m with
        | nil => rfl
        | cons => simp [exsBare] at hm
      | cons x r ih => intro m hm; cases m with
        | nil => simp [exsBare] at hm
        | cons y s =>
          simp only [exsBare, List.cons.injEq] at hm
          simp only [sameEs, Bool.and_eq_true]
          exact ⟨bare_same x y hm.1, ih s hm.2⟩
    have st : ∀ (l m : List St), (∀ x ∈ l, ∀ y : St, x.bare = y.bare → sameS x y = true) → stsBare l = stsBare m → sameSs l m = true := by
      intro l
      induction l with
      | nil => intro m _ hm; cases m with
        | nil => rfl
        | cons => simp [stsBare] at hm
      | cons x r ih => intro m hi hm; cases m with
        | nil => simp [stsBare] at hm
        | cons y s =>
          simp only [stsBare, List.cons.injEq] at hm
          simp only [sameSs, Bool.and_eq_true]
          exact ⟨hi x (.head _) y hm.1, ih s (fun z hz => hi z (.tail _ hz)) hm.2⟩
    exact ⟨⟨ex _ _ he, st _ _ ihb hb⟩, st _ _ ihl hl⟩
theorem bare_by {α : Type} {f : α → α → Bool} {g : α → α} (h : ∀ x y, g x = g y → f x y = true) : ∀ (l m : List α), l.map g = m.map g → sameBy f l m = true
  | [], [], _ => rfl
  | [], _ :: _, h => by simp at h
  | _ :: _, [], h => by simp at h
  | x :: r, y :: s, hm => by
    simp only [List.map_cons, List.cons.injEq] at hm
    simp only [sameBy, Bool.and_eq_true]
    exact ⟨h x y hm.1, bare_by h r s hm.2⟩
theorem bare_sameSs (l m : List St) (h : stsBare l = stsBare m) : sameSs l m = true := by
  induction l generalizing m with
  | nil => cases m with
    | nil => rfl
    | cons => simp [stsBare] at h
  | cons x r ih => cases m with
    | nil => simp [stsBare] at h
    | cons y s =>
      simp only [stsBare, List.cons.injEq] at h
      simp only [sameSs, Bool.and_eq_true]
      exact ⟨bare_sameS x y h.1, ih s h.2⟩
theorem bare_sameD (a b : Dc) (h : a.bare = b.bare) : sameD a b = true := by
  simp only [Dc.bare, Dc.mk.injEq] at h
  unfold sameD
  rw [h.1, h.2.1]
  simp
theorem bare_sameT (a b : Th) (h : a.bare = b.bare) : sameT a b = true := by
  simp only [Th.bare, Th.mk.injEq] at h
  unfold sameT
  rw [h.1, bare_by bare_sameD _ _ h.2.1, bare_sameSs _ _ h.2.2.1]
  simp
theorem bare_samePg (a b : Pg) (h : a.bare = b.bare) : samePg a b = true := by
  simp only [Pg.bare, Pg.mk.injEq] at h
  unfold samePg
  rw [bare_by bare_sameD _ _ h.1, bare_by bare_sameD _ _ h.2.1, bare_by bare_sameT _ _ h.2.2]
  rfl
end Go.Proofs.YtjpmdafaaonpoaaDoor

namespace Go.Proofs.YtjpmdafaaonpoaaDoor
set_option linter.unusedVariables false
theorem sk_idem : ∀ (l : List UInt8) (b : Bool), sk false (l.drop (sk b l)) = 0
  | [], b => by cases b <;> rfl
  | c :: r, true => by
    simp only [sk]
    split
    · rw [Nat.add_comm, List.drop_succ_cons]; exact sk_idem r false
    · rw [Nat.add_comm, List.drop_succ_cons]; exact sk_idem r true
  | c :: r, false => by
    by_cases h1 : blankB (c.toNat : Int) = true
    · have e : sk false (c :: r) = sk false r + 1 := by simp only [sk]; rw [if_pos h1, Nat.add_comm]
      rw [e, List.drop_succ_cons]; exact sk_idem r false
    · by_cases h2 : c = 47 ∧ r.head? = some 47
      · have e : sk false (c :: r) = sk true r + 1 := by simp only [sk]; rw [if_neg h1, if_pos h2, Nat.add_comm]
        rw [e, List.drop_succ_cons]; exact sk_idem r true
      · have e : sk false (c :: r) = 0 := by simp only [sk]; rw [if_neg h1, if_neg h2]
        rw [e, List.drop_zero]; exact e
theorem stop_no47 {Z : List UInt8} (h : stopH Z = true) : ¬ Z.head? = some 47 := by
  cases Z with
  | nil => simp
  | cons c r =>
    intro e
    have e : c = 47 := by simpa using e
    subst e
    exact absurd (show blankB ((47 : UInt8).toNat : Int) = true from h) (by decide)
/-- A token's text: alone it is that token; ahead of it nothing is gone over. -/
structure TxOk (x : Res) : Prop where
  next : nextL x.text.data.toList = ⟨x.kind, x.text.data.toList.length, x.wd, 0, 0⟩
  pos : ¬ x.text.data.toList = []
  quiet : ∀ Z, stopH Z = true → sk false (x.text.data.toList ++ Z) = 0
theorem nextL_clean (l : List UInt8) (h : (nextL l).fr = 0) : (nextL l).fa = 0 := by
  cases l with
  | nil => cases h
  | cons c r =>
    revert h
    rw [show nextL (c :: r) = if letterB (c.toNat : Int) = true then nameL (c :: r) else if digitB (c.toNat : Int) = true then numL (c :: r) else if signB (c.toNat : Int) = true then ⟨4, aheadN (c :: r), 0, 0, 0⟩ else ⟨0, 0, 0, 0, 1⟩ from rfl]
    by_cases h1 : letterB (c.toNat : Int) = true
    · rw [if_pos h1]
      unfold nameL
      by_cases h2 : wordL ((c :: r).take (spanN namedB (c :: r))) = true
      · rw [if_pos h2]; exact fun _ => rfl
      · rw [if_neg h2]
        by_cases h3 : 32 < spanN namedB (c :: r)
        · rw [if_pos h3]; intro h; cases h
        · rw [if_neg h3]; exact fun _ => rfl
    · rw [if_neg h1]
      by_cases h2 : digitB (c.toNat : Int) = true
      · rw [if_pos h2]
        unfold numL
        cases hv : valueO ((c :: r).take (spanN digitB (c :: r))) with
        | none => intro h; cases h
        | some z =>
          simp only [numK]
          split
          · intro h; cases h
          · exact fun _ => rfl
      · rw [if_neg h2]
        split
        · exact fun _ => rfl
        · intro h; cases h
theorem cut_tx (q : Nat) {m : List UInt8} (hs : sk false m = 0) (hf : (nextL m).fr = 0) : TxOk (toRes q m (nextL m)) := by
  have hg := nextL_good m hf
  have hfa := nextL_clean m hf
  have ht : (toRes q m (nextL m)) = ⟨(nextL m).kind, ⟨(m.take (nextL m).n).toArray⟩, (nextL m).wd, q, 0, 0⟩ := by unfold toRes; rw [if_pos hf]
  rw [ht]
  have hlen : (m.take (nextL m).n).length = (nextL m).n := by rw [List.length_take]; omega
  have hp : ¬ m.take (nextL m).n = [] := by
    intro e
    rw [e] at hlen
    simp at hlen
    omega
  have hcut : nextL (m.take (nextL m).n) = nextL m := by
    have := nextL_cut (p := m.take (nextL m).n) (X := m.drop (nextL m).n) hp (by rw [List.take_append_drop]; exact hf) (by rw [List.take_append_drop, hlen]; exact Nat.le_refl _)
    rw [List.take_append_drop] at this
    exact this
  refine ⟨?_, hp, fun Z hZ => ?_⟩
  · show nextL (m.take (nextL m).n) = ⟨(nextL m).kind, (m.take (nextL m).n).length, (nextL m).wd, 0, 0⟩
    rw [hcut, hlen, ← hfa, ← hf]
  · show sk false (m.take (nextL m).n ++ Z) = 0
    have := sk_in false (m.take (nextL m).n) (m.drop (nextL m).n) Z (by rw [List.take_append_drop, hs, hlen]; omega) (stop_no47 hZ)
    rw [this, List.take_append_drop, hs]
theorem toks_tx : ∀ (k : Nat) (l : List UInt8) (e : Nat) (xs : List Res), l.length ≤ k → restL e l = (xs, 0, 0) → ∀ x ∈ xs, TxOk x := by
  intro k
  induction k with
  | zero =>
    intro l e xs hl h x hx
    have : l = [] := List.eq_nil_of_length_eq_zero (by omega)
    subst this
    have h0 : restL e [] = ([], 0, 0) := rfl
    rw [h0] at h
    cases h
    cases hx
  | succ k ih =>
    intro l e xs hl h x hx
    obtain ⟨m, hmm⟩ : ∃ m, l.drop (sk false l) = m := ⟨_, rfl⟩
    have hs : sk false m = 0 := by rw [← hmm]; exact sk_idem l false
    by_cases hm : m = []
    · rw [rest_nil (by rw [hmm]; exact hm)] at h
      cases h
      cases hx
    · have hf : (nextL m).fr = 0 := by
        apply Classical.byContradiction
        intro hf
        rw [rest_fault hmm hm hf] at h
        exact hf (congrArg (fun x => x.2.2) h)
      have hg := nextL_good m hf
      rw [rest_tok hmm hf] at h
      have h1 := congrArg Prod.fst h
      have h2 := congrArg Prod.snd h
      simp only at h1 h2
      rw [← h1] at hx
      rcases List.mem_cons.1 hx with rfl | hx
      · exact cut_tx _ hs hf
      · have hmk : (m.drop (nextL m).n).length ≤ k := by
          have : m.length ≤ l.length := by rw [← hmm]; simp
          rw [List.length_drop]; omega
        exact ih _ _ _ hmk (by rw [← h2]) x hx
/-- What is put ahead of a token. -/
def gapL : Nat → List UInt8
  | 0 => [32]
  | 1 => [10]
  | 2 => [9, 32, 13]
  | 3 => [32, 47, 47, 32, 97, 32, 114, 101, 109, 97, 114, 107, 10]
  | _ => [32, 32, 47, 47, 10, 10]
theorem sk_gap0 (Y : List UInt8) : sk false ([32] ++ Y) = 1 + sk false Y := by
  have h : sk false ([32] ++ Y) = 1 + (sk false Y) := rfl
  omega
theorem sk_gap1 (Y : List UInt8) : sk false ([10] ++ Y) = 1 + sk false Y := by
  have h : sk false ([10] ++ Y) = 1 + (sk false Y) := rfl
  omega
theorem sk_gap2 (Y : List UInt8) : sk false ([9, 32, 13] ++ Y) = 3 + sk false Y := by
  have h : sk false ([9, 32, 13] ++ Y) = 1 + (1 + (1 + (sk false Y))) := rfl
  omega
theorem sk_gap3 (Y : List UInt8) : sk false ([32, 47, 47, 32, 97, 32, 114, 101, 109, 97, 114, 107, 10] ++ Y) = 13 + sk false Y := by
  have h : sk false ([32, 47, 47, 32, 97, 32, 114, 101, 109, 97, 114, 107, 10] ++ Y) = 1 + (1 + (1 + (1 + (1 + (1 + (1 + (1 + (1 + (1 + (1 + (1 + (1 + (sk false Y))))))))))))) := rfl
  omega
theorem sk_gap4 (Y : List UInt8) : sk false ([32, 32, 47, 47, 10, 10] ++ Y) = 6 + sk false Y := by
  have h : sk false ([32, 32, 47, 47, 10, 10] ++ Y) = 1 + (1 + (1 + (1 + (1 + (1 + (sk false Y)))))) := rfl
  omega
theorem gap_skip (g : Nat) (Y : List UInt8) : sk false (gapL g ++ Y) = (gapL g).length + sk false Y := by
  unfold gapL
  split
  · exact sk_gap0 Y
  · exact sk_gap1 Y
  · exact sk_gap2 Y
  · exact sk_gap3 Y
  · exact sk_gap4 Y
theorem gap_stop (g : Nat) (Y : List UInt8) : stopH (gapL g ++ Y) = true := by
  unfold gapL
  split <;> rfl
/-- The tokens, with what is put between, and an LF behind. -/
def gapsB (f : Nat → Nat) : Nat → List Res → List UInt8
  | _, [] => [10]
  | i, x :: r => gapL (f i) ++ (x.text.data.toList ++ gapsB f (i + 1) r)
theorem gapsB_stop (f : Nat → Nat) (i : Nat) (xs : List Res) : stopH (gapsB f i xs) = true := by
  cases xs with
  | nil => rfl
  | cons x r => exact gap_stop _ _
theorem gaps_back (f : Nat → Nat) : ∀ (xs : List Res) (i e : Nat), (∀ x ∈ xs, TxOk x) → ∃ ys, restL e (gapsB f i xs) = (ys, 0, 0) ∧ xs.map bareR = ys.map bareR
  | [], i, e, _ => ⟨[], rfl, rfl⟩
  | x :: r, i, e, h => by
    obtain ⟨t1, t2, t3⟩ := h x (.head _)
    have hZ := gapsB_stop f (i + 1) r
    obtain ⟨ys, h1, h2⟩ := gaps_back f r (i + 1) (e + (gapL (f i)).length + x.text.data.toList.length) (fun y hy => h y (.tail _ hy))
    have hs : sk false (gapsB f i (x :: r)) = (gapL (f i)).length := by
      show sk false (gapL (f i) ++ (x.text.data.toList ++ gapsB f (i + 1) r)) = _
      rw [gap_skip, t3 _ hZ]; rfl
    have hd : (gapsB f i (x :: r)).drop (sk false (gapsB f i (x :: r))) = x.text.data.toList ++ gapsB f (i + 1) r := by
      rw [hs]
      show (gapL (f i) ++ (x.text.data.toList ++ gapsB f (i + 1) r)).drop _ = _
      rw [List.drop_left]
    have hn : nextL (x.text.data.toList ++ gapsB f (i + 1) r) = ⟨x.kind, x.text.data.toList.length, x.wd, 0, 0⟩ := by rw [nextL_stop t2 hZ, t1]
    have hr := rest_tok (e := e) hd (by rw [hn])
    rw [hn, hs] at hr
    simp only at hr
    rw [List.drop_left, h1] at hr
    refine ⟨_, hr, ?_⟩
    rw [List.map_cons, List.map_cons, h2]
    congr 1
    unfold toRes bareR
    rw [if_pos rfl]
    simp only [List.take_left]
end Go.Proofs.YtjpmdafaaonpoaaDoor

namespace Go.Proofs.YtjpmdafaaonpoaaDoor
set_option linter.unusedVariables false
theorem saidP_list {l : List UInt8} (h : l.length ≤ 65536) (hf : (restL 0 l).2.2 = 0) : said_P ⟨l.toArray⟩ = endR (parseP fnd (l.length : Nat) ((restL 0 l).1.map Res.tk)) := by
  have hsz : (⟨l.toArray⟩ : ByteArray).size = l.length := by simp [ByteArray.size]
  have h1 : ¬ 65536 < (⟨l.toArray⟩ : ByteArray).size := by rw [hsz]; omega
  have hfr : frontR ⟨l.toArray⟩ = restL 0 l := by rw [front_list]
  unfold said_P wholeR scanX
  rw [if_neg h1, hfr, hsz, if_neg (by simpa using hf), if_neg (by omega : ¬ 65536 < l.length), if_pos hf]
  rfl
theorem scan_good {s : ByteArray} (h : (scanX s).2.1 = 0) : s.size ≤ 65536 ∧ restL 0 s.data.toList = ((scanX s).1, 0, 0) ∧ (scanX s).2 = (0, 0, 0) := by
  unfold scanX at h ⊢
  split at h
  · cases h
  · rename_i h1
    rw [if_neg h1]
    split at h
    · rename_i hf
      rw [if_pos hf]
      rw [front_list] at hf ⊢
      have hcl := goL_clean _ _ _ (show (goL ((s.data.toList.drop (sk false s.data.toList)).length + 1) (0 + sk false s.data.toList) (s.data.toList.drop (sk false s.data.toList))).2.2 = 0 from hf)
      have a1 : (restL 0 s.data.toList).2.1 = 0 := hcl
      refine ⟨by omega, ?_, rfl⟩
      generalize restL 0 s.data.toList = Z at a1 hf ⊢
      obtain ⟨z1, z2, z3⟩ := Z
      simp only at a1 hf ⊢
      rw [a1, hf]
    · cases h
theorem blanks_said {s : ByteArray} (h : (scanX s).2.1 = 0) (f : Nat → Nat) (hlen : (gapsB f 0 (scanX s).1).length ≤ 65536) :
    (∃ p q, said_P s = (some p, 0, 0, 0) ∧ said_P ⟨(gapsB f 0 (scanX s).1).toArray⟩ = (some q, 0, 0, 0) ∧ samePg p q = true ∧ okP p) ∨
    (∃ b c b' c', said_P s = (none, 30, b, c) ∧ said_P ⟨(gapsB f 0 (scanX s).1).toArray⟩ = (none, 30, b', c')) := by
  obtain ⟨hsz, h0, _⟩ := scan_good h
  have htx := toks_tx _ _ _ _ (Nat.le_refl _) h0
  obtain ⟨ys, h1, h2⟩ := gaps_back f (scanX s).1 0 0 htx
  have hlike := like_of h2
  have e1 : said_P s = endR (parseP fnd (s.size : Int) ((scanX s).1.map Res.tk)) := by
    have hl : s.data.toList.length = s.size := by rw [Array.length_toList]; rfl
    have := saidP_list (l := s.data.toList) (by omega) (by rw [h0])
    rw [h0] at this
    have es : (⟨s.data.toList.toArray⟩ : ByteArray) = s := ByteArray.ext (Array.ext' (by simp))
    rw [es, hl] at this
    exact this
  have e2 := saidP_list hlen (by rw [h1])
  rw [h1] at e2
  rw [e1, e2]
  have hsim := sim_parse (fnd := fnd) (L := (s.size : Int)) (L' := ((gapsB f 0 (scanX s).1).length : Int)) hlike
  generalize hX : parseP fnd (s.size : Int) ((scanX s).1.map Res.tk) = X at hsim ⊢
  generalize parseP fnd ((gapsB f 0 (scanX s).1).length : Int) (ys.map Res.tk) = Y at hsim ⊢
  cases X with
  | ok p r =>
    cases Y with
    | ok q r' =>
      left
      refine ⟨p, q, rfl, rfl, bare_samePg p q hsim.1, ?_⟩
      have := endP_ok (x := progP fnd (s.size : Int) (fuel ((scanX s).1.map Res.tk)) ((scanX s).1.map Res.tk)) (show endP _ = .ok p r from hX)
      exact prog_ok this (by rw [List.length_map]; exact scanX_len s)
    | bad b c => exact hsim.elim
  | bad b c =>
    cases Y with
    | ok q r' => exact hsim.elim
    | bad b' c' => exact .inr ⟨b, c, b', c', rfl, rfl⟩
end Go.Proofs.YtjpmdafaaonpoaaDoor

namespace Go.Proofs.YtjpmdafaaonpoaaDoor
open Go.RowKit
set_option linter.unusedVariables false
theorem infoB : (Tryd.prog.info? 5).map (fun i => (i.zero, i.size, i.bytes)) = some (some (.int .u8 0), 1, 1) := by kernel_rfl
theorem conv_bytes {W : World} {B : Nat} {v : Value} {l : List UInt8} (h : W.ownsRow B 5 1 v l.length (Lib.byteCells l)) : (convert 36 9 v).run Tryd.prog W = .ok (.string ⟨l.toArray⟩) W := by
  rcases h.2 with ⟨rfl, h0⟩ | ⟨g, cap, cur, rfl, _, hg, _, _, _, htk⟩
  · have : l = [] := List.length_eq_zero_iff.1 h0
    subst this
    exact Lib.run_convert_nil_bytes W _ _ _ 0 Tryd.underlying36 Tryd.underlying5 Tryd.underlying9
  · exact run_convert_bytes_back W _ _ _ ⟨g, 0, none⟩ cap l Tryd.underlying36 Tryd.underlying5 Tryd.underlying9 (Lib.bytes_of_row hg (by simpa using htk))
/-- The tree that is read, or an empty one. -/
def pgOr (r : Option Pg) (x : Pg) : Prop := match r with | some p => p = x | none => x = ⟨[], [], []⟩
theorem wh_rowP {w w' : World} {r : Option Pg × Int × Int × Int} {e : Ending} (h : WhPost w zPg pgR r e w') : Below w.heap.size w w' ∧ ∃ VV : Array Value, e = .returned (.tuple #[.agg VV, .int .i64 r.2.1, .agg #[.int .i64 r.2.2.1, .int .i64 r.2.2.2]]) ∧ VV.size = 3 ∧ VV.all (·.oneCell') = true ∧ ∀ x, pgOr r.1 x → pA w' x (.agg VV) := by
  obtain ⟨hb, v, rfl, hv⟩ := h
  refine ⟨hb, ?_⟩
  obtain ⟨r1, r2, r3, r4⟩ := r
  cases r1 with
  | none =>
    obtain rfl : v = .agg zPg := hv
    refine ⟨_, rfl, rfl, by kernel_rfl, fun x hx => ?_⟩
    have hx : x = ⟨[], [], []⟩ := hx
    subst hx
    exact ⟨none, 0, none, 0, none, 0, rfl, .inl rfl, .inl rfl, .inl rfl⟩
  | some x =>
    have hv : pgR w.heap.size x v w' := hv
    have ha := pA_of hv
    obtain ⟨a1, c1, a2, c2, a3, c3, rfl, _⟩ := hv
    refine ⟨_, rfl, rfl, by kernel_rfl, fun y hy => ?_⟩
    have hy : x = y := hy
    rw [← hy]; exact ha
theorem saidP_bad {s : ByteArray} (h : ¬ (scanX s).2.1 = 0) : (∃ b c sb sc, said_P s = (none, 4, b, c) ∧ (scanX s).2 = (4, sb, sc)) ∨ ∃ b c sb sc, said_P s = (none, 30, b, c) ∧ (scanX s).2 = (20, sb, sc) := by
  have h' := h
  unfold scanX at h
  split at h
  · rename_i h1
    refine .inl ⟨0, 0, 0, 0, ?_, by unfold scanX; rw [if_pos h1]⟩
    unfold said_P wholeR
    rw [if_pos h1]
  · rename_i h1
    split at h
    · exact absurd rfl h
    · rename_i hf
      refine .inr ⟨(frontR s).2.1, 1, (frontR s).2.1, (frontR s).2.2, ?_, by unfold scanX; rw [if_neg h1, if_neg hf]⟩
      unfold said_P wholeR
      rw [if_neg h1, if_pos hf]
theorem saidP_not4 {s : ByteArray} (h : (scanX s).2.1 = 0) {r1 : Option Pg} {a b c : Int} (hs : said_P s = (r1, a, b, c)) : (a == 4) = false := by
  obtain ⟨h1, _, _⟩ := scan_good h
  unfold said_P wholeR at hs
  rw [if_neg (by omega)] at hs
  split at hs
  · cases hs; rfl
  · revert hs
    generalize endP _ = Z
    intro hs
    cases Z with
    | ok x r => simp only [endR] at hs; cases hs; rfl
    | bad p q => simp only [endR] at hs; cases hs; rfl
theorem goL_text : ∀ (f q : Nat) (l : List UInt8), ∀ x ∈ (goL f q l).1, x.text.size ≤ l.length
  | 0, q, l, x, hx => by simp [goL] at hx
  | f + 1, q, l, x, hx => by
    simp only [goL] at hx
    split at hx
    · simp at hx
    · split at hx
      · rename_i hf
        rcases List.mem_cons.1 hx with rfl | hx
        · unfold toRes
          rw [if_pos hf]
          show (l.take (nextL l).n).toArray.size ≤ _
          rw [List.size_toArray, List.length_take]
          omega
        · have := goL_text f _ _ x hx
          rw [List.length_drop, List.length_drop] at this
          omega
      · simp at hx
theorem scan_text {s : ByteArray} (h : (scanX s).2.1 = 0) : ∀ x ∈ (scanX s).1, x.text.size ≤ 65536 := by
  obtain ⟨h1, h2, _⟩ := scan_good h
  intro x hx
  have h3 : (scanX s).1 = (restL 0 s.data.toList).1 := by rw [h2]
  rw [h3] at hx
  have := goL_text _ _ _ x hx
  rw [List.length_drop] at this
  have hl : s.data.toList.length = s.size := by rw [Array.length_toList]; rfl
  omega
/-- A list of bytes among the arguments. -/
def GapA (W : World) (v : Value) (gs : List Nat) : Prop := ∃ ga gc, v = .slice ga gs.length gc ∧ ∀ (i : Nat) (x : Nat), gs[i]? = some x → x ≤ 255 ∧ ∃ g off, ga = some ⟨g, off, none⟩ ∧ W.cell? ⟨g, off + i, none⟩ = some (.int .u8 (x : Int))
/-- Which gap stands ahead of a token. -/
def gapF (gs : List Nat) (i : Nat) : Nat := if i < gs.length then gs.getD i 0 % 5 else 0
theorem gapF_lt (gs : List Nat) (i : Nat) : gapF gs i < 5 := by
  unfold gapF
  split <;> omega
theorem gap_cell {W : World} {b : Nat} (h : Own W b 9 #[.string ⟨#[32]⟩, .string ⟨#[10]⟩, .string ⟨#[9, 32, 13]⟩, .string ⟨#[32, 47, 47, 32, 97, 32, 114, 101, 109, 97, 114, 107, 10]⟩, .string ⟨#[32, 32, 47, 47, 10, 10]⟩]) {k : Nat} (hk : k < 5) : W.cell? ⟨b, k, none⟩ = some (.string ⟨(gapL k).toArray⟩) := by
  rw [cell_of_row _ _ _ _ _ _ h]
  have : k = 0 ∨ k = 1 ∨ k = 2 ∨ k = 3 ∨ k = 4 := by omega
  rcases this with rfl | rfl | rfl | rfl | rfl <;> rfl
theorem arr_three {V : Array Value} (h : V.size = 3) : ∃ a b c, V = #[a, b, c] := by
  obtain ⟨l⟩ := V
  match l, h with
  | [a, b, c], _ => exact ⟨a, b, c, rfl⟩
theorem blanks_pair {s : ByteArray} (h : (scanX s).2.1 = 0) (f : Nat → Nat) (hlen : (gapsB f 0 (scanX s).1).length ≤ 65536) {r1 : Option Pg} {a b c : Int} (h1 : said_P s = (r1, a, b, c)) :
    ∃ r2 b2 c2 x y, said_P ⟨(gapsB f 0 (scanX s).1).toArray⟩ = (r2, a, b2, c2) ∧ pgOr r1 x ∧ pgOr r2 y ∧ samePg x y = true ∧ okP x := by
  rcases blanks_said h f hlen with ⟨p, q, k1, k2, k3, k4⟩ | ⟨b', c', b2, c2, k1, k2⟩
  · rw [k1] at h1
    cases h1
    exact ⟨some q, 0, 0, p, q, k2, rfl, rfl, k3, k4⟩
  · rw [k1] at h1
    cases h1
    exact ⟨none, b2, c2, ⟨[], [], []⟩, ⟨[], [], []⟩, k2, rfl, rfl, rfl, by simp [okP]⟩
theorem gap_len (k : Nat) : (gapL k).length ≤ 13 := by
  unfold gapL
  split <;> decide
theorem str_cells (s : ByteArray) : Lib.strCells s = Lib.byteCells s.data.toList := rfl
set_option maxRecDepth 100000 in
set_option maxHeartbeats 8000000 in
theorem blanks_bad4 (s : ByteArray) (gv : Value) (gs : List Nat) (w : World) (TT : LTabs w ∧ Tabs w) (hg : GapA w gv gs) {b c sb sc : Int} (h1 : said_P s = (none, 4, b, c)) (h2 : (scanX s).2 = (4, sb, sc)) : Calls Tryd.prog 4 #[.string s, gv] w fun e w' => e = .returned (.bool true) ∧ Below w.heap.size w w' := by
  have HL := Lib.hid (p_lives TT.1 TT.2)
  have HX : Hid (∀ s W, Below w.heap.size w W → Calls Tryd.prog 12 #[.string s] W fun e w' => Below W.heap.size W w' ∧ ∃ VV : Array Value, e = .returned (.tuple #[.agg VV, .int .i64 (said_P s).2.1, .agg #[.int .i64 (said_P s).2.2.1, .int .i64 (said_P s).2.2.2]]) ∧ VV.size = 3 ∧ VV.all (·.oneCell') = true ∧ ∀ x, pgOr (said_P s).1 x → pA w' x (.agg VV)) := fun s W hb => (p_Parse s (TT.1.below (Nat.le_refl _) hb) (TT.2.below (Nat.le_refl _) hb)).mono fun e w' h => wh_rowP h
  have HSC : Hid (∀ W, Below w.heap.size w W → Calls Tryd.prog 13 #[.string s] W fun e w' => ∃ u, e = .returned (.tuple #[u, .int .i64 (scanX s).2.1, .agg #[.int .i64 (scanX s).2.2.1, .int .i64 (scanX s).2.2.2]]) ∧ w'.ownsRow W.heap.size 49 4 u (scanX s).1.length (rowR (scanX s).1) ∧ (u = .slice none 0 0 ↔ (scanX s).1 = []) ∧ Below W.heap.size W w') := fun W hb => scan_row s (TT.1.below (Nat.le_refl _) hb)
  have HR1 := Lib.hid h1
  have HSX := Lib.hid h2
  obtain ⟨ga, gc, rfl, _⟩ := hg
  clear h1 h2
  clear TT
  go_enter Tryd.func4, Tryd.ntmps4
  go_wp2_with fail
  go_at_call 9
  refine (HL.out).mono ?_
  rintro e w1 ⟨rfl, hb1⟩
  have HB1 := Lib.hid hb1
  clear hb1
  go_wp2_with fail
  go_at_call 12
  refine (HX.out _ _ HB1.out).mono ?_
  rintro e w2 ⟨hb2, V1, rfl, hz1, ho1, hv1⟩
  rw [HR1.out] at hv1 ⊢
  have HV1 := Lib.hid hv1
  have HZ1 := Lib.hid (And.intro hz1 ho1)
  have Z1 := (Own.new w2 40 #[.slice none 0 0, .slice none 0 0, .slice none 0 0]).alloc (.cells #[.int .i64 0, .int .i64 0] 29)
  have Z2 := Own.new (w2.alloc (.cells #[.slice none 0 0, .slice none 0 0, .slice none 0 0] 40)) 29 #[.int .i64 0, .int .i64 0]
  rw [World.size_alloc] at Z2
  have Z2' := Z2.other (g := w2.heap.size) V1 (by omega)
  have P1 := Lib.hid ((Z1.row V1).other (g := w2.heap.size + 1) #[.int .i64 b, .int .i64 c] (by omega))
  have B3 := Below.of_row (Below.of_row (((Below.refl w2.heap.size w2).alloc (Nat.le_refl _) (.cells #[.slice none 0 0, .slice none 0 0, .slice none 0 0] 40)).alloc (by rw [World.size_alloc]; omega) (.cells #[.int .i64 0, .int .i64 0] 29)) (g := w2.heap.size) (Nat.le_refl _) V1) (g := w2.heap.size + 1) (by omega) #[.int .i64 b, .int .i64 c]
  have HB2 := Lib.hid ((HB1.out.trans (hb2.mono HB1.out.size)).trans (B3.mono (Nat.le_trans HB1.out.size hb2.size)))
  have HB3 := Lib.hid B3
  clear Z2 hb2 B3 hv1 hz1 ho1
  go_upto_region 4 with (first | (refine st rowPg rfl rfl Z1 rfl rfl HZ1.out.1 (by rfl) HZ1.out.2 ?_) | (refine st rowFl rfl rfl Z2' rfl rfl (by rfl) (by rfl) (by kernel_rfl) ?_))
  obtain ⟨W3, hW3⟩ : ∃ W, W = ((((w2.alloc (.cells #[.slice none 0 0, .slice none 0 0, .slice none 0 0] 40)).alloc (.cells #[.int .i64 0, .int .i64 0] 29)).setRow w2.heap.size V1).setRow (w2.heap.size + 1) #[.int .i64 b, .int .i64 c]) := ⟨_, rfl⟩
  rw [← hW3] at P1 HB2 HB3 ⊢
  clear hW3 Z1 Z2'
  go_wp2_with fail
  go_at_call 13
  refine (HSC.out _ HB2.out).mono ?_
  rintro e w4 ⟨u0, rfl, hrow, hnil, hb4⟩
  rw [HSX.out]
  have Y := Own.new w4 29 #[.int .i64 0, .int .i64 0]
  have Bq := Below.of_row ((Below.refl w4.heap.size w4).alloc (Nat.le_refl _) (.cells #[.int .i64 0, .int .i64 0] 29)) (g := w4.heap.size) (Nat.le_refl _) #[.int .i64 sb, .int .i64 sc]
  have P1 := Lib.hid ((P1.out.below hb4).below Bq)
  have HB4 := Lib.hid (hb4.trans (Bq.mono hb4.size))
  have HBZ := Lib.hid (HB2.out.trans (HB4.out.mono HB2.out.size))
  have HB34 := HB4
  have TKR := Lib.hid ((tokRow_owns hrow).keep Bq)
  clear hrow hb4 Bq
  go_upto_region 5 with (first | (refine st rowFl rfl rfl Y rfl rfl (by rfl) (by rfl) (by kernel_rfl) ?_))
  obtain ⟨W5, hW5⟩ : ∃ W, W = (w4.alloc (.cells #[.int .i64 0, .int .i64 0] 29)).setRow w4.heap.size #[.int .i64 sb, .int .i64 sc] := ⟨_, rfl⟩
  rw [← hW5] at P1 HB4 HB34 HBZ TKR ⊢
  clear hW5 Y
  go_wp2_with fail
  go_ret
  exact ⟨rfl, HBZ.out⟩
set_option maxRecDepth 100000 in
set_option maxHeartbeats 8000000 in
theorem blanks_bad30 (s : ByteArray) (gv : Value) (gs : List Nat) (w : World) (TT : LTabs w ∧ Tabs w) (hg : GapA w gv gs) {b c sb sc : Int} (h1 : said_P s = (none, 30, b, c)) (h2 : (scanX s).2 = (20, sb, sc)) : Calls Tryd.prog 4 #[.string s, gv] w fun e w' => e = .returned (.bool true) ∧ Below w.heap.size w w' := by
  have HL := Lib.hid (p_lives TT.1 TT.2)
  have HX : Hid (∀ s W, Below w.heap.size w W → Calls Tryd.prog 12 #[.string s] W fun e w' => Below W.heap.size W w' ∧ ∃ VV : Array Value, e = .returned (.tuple #[.agg VV, .int .i64 (said_P s).2.1, .agg #[.int .i64 (said_P s).2.2.1, .int .i64 (said_P s).2.2.2]]) ∧ VV.size = 3 ∧ VV.all (·.oneCell') = true ∧ ∀ x, pgOr (said_P s).1 x → pA w' x (.agg VV)) := fun s W hb => (p_Parse s (TT.1.below (Nat.le_refl _) hb) (TT.2.below (Nat.le_refl _) hb)).mono fun e w' h => wh_rowP h
  have HSC : Hid (∀ W, Below w.heap.size w W → Calls Tryd.prog 13 #[.string s] W fun e w' => ∃ u, e = .returned (.tuple #[u, .int .i64 (scanX s).2.1, .agg #[.int .i64 (scanX s).2.2.1, .int .i64 (scanX s).2.2.2]]) ∧ w'.ownsRow W.heap.size 49 4 u (scanX s).1.length (rowR (scanX s).1) ∧ (u = .slice none 0 0 ↔ (scanX s).1 = []) ∧ Below W.heap.size W w') := fun W hb => scan_row s (TT.1.below (Nat.le_refl _) hb)
  have HR1 := Lib.hid h1
  have HSX := Lib.hid h2
  obtain ⟨ga, gc, rfl, _⟩ := hg
  clear h1 h2
  clear TT
  go_enter Tryd.func4, Tryd.ntmps4
  go_wp2_with fail
  go_at_call 9
  refine (HL.out).mono ?_
  rintro e w1 ⟨rfl, hb1⟩
  have HB1 := Lib.hid hb1
  clear hb1
  go_wp2_with fail
  go_at_call 12
  refine (HX.out _ _ HB1.out).mono ?_
  rintro e w2 ⟨hb2, V1, rfl, hz1, ho1, hv1⟩
  rw [HR1.out] at hv1 ⊢
  have HV1 := Lib.hid hv1
  have HZ1 := Lib.hid (And.intro hz1 ho1)
  have Z1 := (Own.new w2 40 #[.slice none 0 0, .slice none 0 0, .slice none 0 0]).alloc (.cells #[.int .i64 0, .int .i64 0] 29)
  have Z2 := Own.new (w2.alloc (.cells #[.slice none 0 0, .slice none 0 0, .slice none 0 0] 40)) 29 #[.int .i64 0, .int .i64 0]
  rw [World.size_alloc] at Z2
  have Z2' := Z2.other (g := w2.heap.size) V1 (by omega)
  have P1 := Lib.hid ((Z1.row V1).other (g := w2.heap.size + 1) #[.int .i64 b, .int .i64 c] (by omega))
  have B3 := Below.of_row (Below.of_row (((Below.refl w2.heap.size w2).alloc (Nat.le_refl _) (.cells #[.slice none 0 0, .slice none 0 0, .slice none 0 0] 40)).alloc (by rw [World.size_alloc]; omega) (.cells #[.int .i64 0, .int .i64 0] 29)) (g := w2.heap.size) (Nat.le_refl _) V1) (g := w2.heap.size + 1) (by omega) #[.int .i64 b, .int .i64 c]
  have HB2 := Lib.hid ((HB1.out.trans (hb2.mono HB1.out.size)).trans (B3.mono (Nat.le_trans HB1.out.size hb2.size)))
  have HB3 := Lib.hid B3
  clear Z2 hb2 B3 hv1 hz1 ho1
  go_upto_region 4 with (first | (refine st rowPg rfl rfl Z1 rfl rfl HZ1.out.1 (by rfl) HZ1.out.2 ?_) | (refine st rowFl rfl rfl Z2' rfl rfl (by rfl) (by rfl) (by kernel_rfl) ?_))
  obtain ⟨W3, hW3⟩ : ∃ W, W = ((((w2.alloc (.cells #[.slice none 0 0, .slice none 0 0, .slice none 0 0] 40)).alloc (.cells #[.int .i64 0, .int .i64 0] 29)).setRow w2.heap.size V1).setRow (w2.heap.size + 1) #[.int .i64 b, .int .i64 c]) := ⟨_, rfl⟩
  rw [← hW3] at P1 HB2 HB3 ⊢
  clear hW3 Z1 Z2'
  go_wp2_with fail
  go_at_call 13
  refine (HSC.out _ HB2.out).mono ?_
  rintro e w4 ⟨u0, rfl, hrow, hnil, hb4⟩
  rw [HSX.out]
  have Y := Own.new w4 29 #[.int .i64 0, .int .i64 0]
  have Bq := Below.of_row ((Below.refl w4.heap.size w4).alloc (Nat.le_refl _) (.cells #[.int .i64 0, .int .i64 0] 29)) (g := w4.heap.size) (Nat.le_refl _) #[.int .i64 sb, .int .i64 sc]
  have P1 := Lib.hid ((P1.out.below hb4).below Bq)
  have HB4 := Lib.hid (hb4.trans (Bq.mono hb4.size))
  have HBZ := Lib.hid (HB2.out.trans (HB4.out.mono HB2.out.size))
  have HB34 := HB4
  have TKR := Lib.hid ((tokRow_owns hrow).keep Bq)
  clear hrow hb4 Bq
  go_upto_region 5 with (first | (refine st rowFl rfl rfl Y rfl rfl (by rfl) (by rfl) (by kernel_rfl) ?_))
  obtain ⟨W5, hW5⟩ : ∃ W, W = (w4.alloc (.cells #[.int .i64 0, .int .i64 0] 29)).setRow w4.heap.size #[.int .i64 sb, .int .i64 sc] := ⟨_, rfl⟩
  rw [← hW5] at P1 HB4 HB34 HBZ TKR ⊢
  clear hW5 Y
  go_wp2_with fail
  go_ret
  exact ⟨rfl, HBZ.out⟩
set_option maxRecDepth 100000 in
set_option maxHeartbeats 8000000 in
theorem blanks_good (s : ByteArray) (gv : Value) (gs : List Nat) (w : World) (TT : LTabs w ∧ Tabs w) (hg : GapA w gv gs) {r1 : Option Pg} {a b c : Int} (h1 : said_P s = (r1, a, b, c)) (h0 : (scanX s).2.1 = 0) (hgs : gs.length ≤ 9223372036854775807) : Calls Tryd.prog 4 #[.string s, gv] w fun e w' => e = .returned (.bool true) ∧ Below w.heap.size w w' := by
  have HL := Lib.hid (p_lives TT.1 TT.2)
  have HX : Hid (∀ s W, Below w.heap.size w W → Calls Tryd.prog 12 #[.string s] W fun e w' => Below W.heap.size W w' ∧ ∃ VV : Array Value, e = .returned (.tuple #[.agg VV, .int .i64 (said_P s).2.1, .agg #[.int .i64 (said_P s).2.2.1, .int .i64 (said_P s).2.2.2]]) ∧ VV.size = 3 ∧ VV.all (·.oneCell') = true ∧ ∀ x, pgOr (said_P s).1 x → pA w' x (.agg VV)) := fun s W hb => (p_Parse s (TT.1.below (Nat.le_refl _) hb) (TT.2.below (Nat.le_refl _) hb)).mono fun e w' h => wh_rowP h
  have HSC : Hid (∀ W, Below w.heap.size w W → Calls Tryd.prog 13 #[.string s] W fun e w' => ∃ u, e = .returned (.tuple #[u, .int .i64 (scanX s).2.1, .agg #[.int .i64 (scanX s).2.2.1, .int .i64 (scanX s).2.2.2]]) ∧ w'.ownsRow W.heap.size 49 4 u (scanX s).1.length (rowR (scanX s).1) ∧ (u = .slice none 0 0 ↔ (scanX s).1 = []) ∧ Below W.heap.size W w') := fun W hb => scan_row s (TT.1.below (Nat.le_refl _) hb)
  have HR1 := Lib.hid h1
  obtain ⟨hs6, h0r, h2⟩ := scan_good h0
  have HSX := Lib.hid h2
  have h4 := saidP_not4 h0 h1
  obtain ⟨ga, gc, rfl, hgc⟩ := hg
  have HGC := Lib.hid hgc
  have H0 := Lib.hid h0
  have HTX : Hid (∀ x ∈ (scanX s).1, x.text.size ≤ 65536) := scan_text h0
  have hn6 := scanX_len s
  obtain ⟨xs, hxs⟩ : ∃ xs, xs = (scanX s).1 := ⟨_, rfl⟩
  have HXS := Lib.hid hxs
  rw [← hxs] at HTX hn6
  have HSC : Hid (∀ W, Below w.heap.size w W → Calls Tryd.prog 13 #[.string s] W fun e w' => ∃ u, e = .returned (.tuple #[u, .int .i64 (scanX s).2.1, .agg #[.int .i64 (scanX s).2.2.1, .int .i64 (scanX s).2.2.2]]) ∧ w'.ownsRow W.heap.size 49 4 u xs.length (rowR xs) ∧ (u = .slice none 0 0 ↔ xs = []) ∧ Below W.heap.size W w') := by rw [hxs]; exact HSC
  obtain ⟨n, hn⟩ : ∃ n, n = xs.length := ⟨_, rfl⟩
  rw [← hn] at hn6
  have HN := Lib.hid hn
  obtain ⟨gn, hgn⟩ : ∃ n, n = gs.length := ⟨_, rfl⟩
  rw [← hgn] at hgs
  rw [← hgn]
  have HGN := Lib.hid hgn
  clear h1 h0 h0r h2 hgc hxs hn hs6 hgn
  clear TT
  go_enter Tryd.func4, Tryd.ntmps4
  go_wp2_with fail
  go_at_call 9
  refine (HL.out).mono ?_
  rintro e w1 ⟨rfl, hb1⟩
  have HB1 := Lib.hid hb1
  clear hb1
  go_wp2_with fail
  go_at_call 12
  refine (HX.out _ _ HB1.out).mono ?_
  rintro e w2 ⟨hb2, V1, rfl, hz1, ho1, hv1⟩
  rw [HR1.out] at hv1 ⊢
  have HV1 := Lib.hid hv1
  have HZ1 := Lib.hid (And.intro hz1 ho1)
  have Z1 := (Own.new w2 40 #[.slice none 0 0, .slice none 0 0, .slice none 0 0]).alloc (.cells #[.int .i64 0, .int .i64 0] 29)
  have Z2 := Own.new (w2.alloc (.cells #[.slice none 0 0, .slice none 0 0, .slice none 0 0] 40)) 29 #[.int .i64 0, .int .i64 0]
  rw [World.size_alloc] at Z2
  have Z2' := Z2.other (g := w2.heap.size) V1 (by omega)
  have P1 := Lib.hid ((Z1.row V1).other (g := w2.heap.size + 1) #[.int .i64 b, .int .i64 c] (by omega))
  have B3 := Below.of_row (Below.of_row (((Below.refl w2.heap.size w2).alloc (Nat.le_refl _) (.cells #[.slice none 0 0, .slice none 0 0, .slice none 0 0] 40)).alloc (by rw [World.size_alloc]; omega) (.cells #[.int .i64 0, .int .i64 0] 29)) (g := w2.heap.size) (Nat.le_refl _) V1) (g := w2.heap.size + 1) (by omega) #[.int .i64 b, .int .i64 c]
  have HB2 := Lib.hid ((HB1.out.trans (hb2.mono HB1.out.size)).trans (B3.mono (Nat.le_trans HB1.out.size hb2.size)))
  have HB3 := Lib.hid B3
  clear Z2 hb2 B3 hv1 hz1 ho1
  go_upto_region 4 with (first | (refine st rowPg rfl rfl Z1 rfl rfl HZ1.out.1 (by rfl) HZ1.out.2 ?_) | (refine st rowFl rfl rfl Z2' rfl rfl (by rfl) (by rfl) (by kernel_rfl) ?_))
  obtain ⟨W3, hW3⟩ : ∃ W, W = ((((w2.alloc (.cells #[.slice none 0 0, .slice none 0 0, .slice none 0 0] 40)).alloc (.cells #[.int .i64 0, .int .i64 0] 29)).setRow w2.heap.size V1).setRow (w2.heap.size + 1) #[.int .i64 b, .int .i64 c]) := ⟨_, rfl⟩
  rw [← hW3] at P1 HB2 HB3 ⊢
  clear hW3 Z1 Z2'
  go_wp2_with fail
  go_at_call 13
  refine (HSC.out _ HB2.out).mono ?_
  rintro e w4 ⟨u0, rfl, hrow, hnil, hb4⟩
  rw [HSX.out]
  have Y := Own.new w4 29 #[.int .i64 0, .int .i64 0]
  have Bq := Below.of_row ((Below.refl w4.heap.size w4).alloc (Nat.le_refl _) (.cells #[.int .i64 0, .int .i64 0] 29)) (g := w4.heap.size) (Nat.le_refl _) #[.int .i64 0, .int .i64 0]
  have P1 := Lib.hid ((P1.out.below hb4).below Bq)
  have HB4 := Lib.hid (hb4.trans (Bq.mono hb4.size))
  have HBZ := Lib.hid (HB2.out.trans (HB4.out.mono HB2.out.size))
  have HB34 := HB4
  have TKR := Lib.hid ((tokRow_owns hrow).keep Bq)
  clear hrow hb4 Bq
  go_upto_region 5 with (first | (refine st rowFl rfl rfl Y rfl rfl (by rfl) (by rfl) (by kernel_rfl) ?_))
  obtain ⟨W5, hW5⟩ : ∃ W, W = (w4.alloc (.cells #[.int .i64 0, .int .i64 0] 29)).setRow w4.heap.size #[.int .i64 0, .int .i64 0] := ⟨_, rfl⟩
  rw [← hW5] at P1 HB4 HB34 HBZ TKR ⊢
  clear hW5 Y
  obtain ⟨oa, cap, hu0, hcells⟩ := TKR.out
  rw [← HN.out] at hu0
  subst hu0
  have HCE := Lib.hid hcells
  clear hcells
  have OB := Own.new W5 9 #[.string ⟨#[32]⟩, .string ⟨#[10]⟩, .string ⟨#[9, 32, 13]⟩, .string ⟨#[32, 47, 47, 32, 97, 32, 114, 101, 109, 97, 114, 107, 10]⟩, .string ⟨#[32, 32, 47, 47, 10, 10]⟩]
  obtain ⟨W6, hW6⟩ : ∃ W, W = W5.alloc (.cells #[.string ⟨#[32]⟩, .string ⟨#[10]⟩, .string ⟨#[9, 32, 13]⟩, .string ⟨#[32, 47, 47, 32, 97, 32, 114, 101, 109, 97, 114, 107, 10]⟩, .string ⟨#[32, 32, 47, 47, 10, 10]⟩] 9) := ⟨_, rfl⟩
  have z6 : Hid (W6.heap.size = W5.heap.size + 1) := by rw [hW6]; exact World.size_alloc _ _
  have B56 : Hid (Below W5.heap.size W5 W6) := by rw [hW6]; exact (Below.refl _ W5).alloc (Nat.le_refl _) _
  rw [← hW6] at OB
  have OB := Lib.hid OB
  go_upto_region 9 with fail
  rw [← hW6]
  clear hW6
  obtain ⟨i0, hi, hz0, hz1, hz2⟩ := info_parts infoB
  go_wp2_with fail
  go_loopg [12, 44] (n + 1) (fun m' v i W => ∃ (k : Nat) (pre : List UInt8), i = .int .i64 (k : Int) ∧ k ≤ n ∧ m' = n - k + 1 ∧ pre ++ gapsB (gapF gs) k (xs.drop k) = gapsB (gapF gs) 0 xs ∧ pre.length ≤ k * 65549 ∧ W.ownsRow W6.heap.size 5 1 v pre.length (Lib.byteCells pre) ∧ Below W6.heap.size W6 W)
  case atStart => exact ⟨0, [], rfl, Nat.zero_le _, by omega, rfl, by simp, World.ownsRow_nil _ _ _ _, Below.refl _ W6⟩
  case round =>
    obtain ⟨k, pre, rfl, hk, hm, hpre, hlen, hown, hb⟩ := hrel
    have HM := Lib.hid hm
    have HPRE := Lib.hid hpre
    have HOWN := Lib.hid hown
    have HB := Lib.hid hb
    clear hm hpre hown hb
    have hplen : pre.length ≤ 4295819264 := by
      have : k * 65549 ≤ 65536 * 65549 := Nat.mul_le_mul_right _ (by omega)
      omega
    by_cases hin : k < n
    · have il : k < xs.length := by have := HN.out; omega
      have g1 : xs[k]? = some xs[k] := List.getElem?_eq_getElem il
      have hmem : xs[k] ∈ xs := List.getElem_mem il
      have hst : xs.drop k = xs[k] :: xs.drop (k + 1) := List.drop_eq_getElem_cons il
      generalize xs[k] = x at g1 hmem hst
      obtain ⟨g, off, rfl, d0, d1, d2, d3⟩ := HCE.out k x g1
      have hxz := HTX.out x hmem
      have HPRE2 : Hid ((pre ++ gapL (gapF gs k) ++ x.text.data.toList) ++ gapsB (gapF gs) (k + 1) (xs.drop (k + 1)) = gapsB (gapF gs) 0 xs) := by
        rw [Hid, ← HPRE.out, hst]
        show _ = pre ++ (gapL (gapF gs k) ++ (x.text.data.toList ++ gapsB (gapF gs) (k + 1) (xs.drop (k + 1))))
        simp only [List.append_assoc]
      obtain ⟨xk, xt, xw, xp, xa, xr⟩ := x
      simp only at d0 d1 d2 d3 hxz
      have lg := lt_of_at d0
      simp only at lg
      have BX : Below W5.heap.size W5 wr := B56.out.trans (HB.out.mono (by have := z6.out; omega))
      have d0 := (BX.cell (p := ⟨g, off + k * 4, none⟩) lg).trans d0
      have d1 := (BX.cell (p := ⟨g, off + k * 4 + 1, none⟩) lg).trans d1
      have d2 := (BX.cell (p := ⟨g, off + k * 4 + 2, none⟩) lg).trans d2
      have d3 := (BX.cell (p := ⟨g, off + k * 4 + 3, none⟩) lg).trans d3
      have HBX := Lib.hid BX
      have hwz := HB.out.size
      have Z1 := Own.new wr 49 #[.int .u8 0, .string ⟨#[]⟩, .int .i64 0, .int .i64 0]
      have HK1 := Lib.hid (Below.of_row ((Below.refl wr.heap.size wr).alloc (Nat.le_refl _) (.cells #[.int .u8 0, .string ⟨#[]⟩, .int .i64 0, .int .i64 0] 49)) (g := wr.heap.size) (Nat.le_refl _) #[.int .u8 xk, .string xt, .int .i64 xw, .int .i64 xp])
      have P9 := Lib.hid (Z1.row #[.int .u8 xk, .string xt, .int .i64 xw, .int .i64 xp])
      have HS1 := Lib.hid ((size_setRow (wr.alloc (.cells #[.int .u8 0, .string ⟨#[]⟩, .int .i64 0, .int .i64 0] 49)) wr.heap.size #[.int .u8 xk, .string xt, .int .i64 xw, .int .i64 xp]).trans (World.size_alloc _ _))
      have HOW7 := Lib.hid (row_row (HOWN.out.alloc (.cells #[.int .u8 0, .string ⟨#[]⟩, .int .i64 0, .int .i64 0] 49)) (g := wr.heap.size) #[.int .u8 xk, .string xt, .int .i64 xw, .int .i64 xp] (fun e => by have := (HOWN.out.lt _ e).2; omega))
      clear BX g1 hmem hst
      go_upto_region 12 with (first | (refine st rowTok rfl rfl Z1 rfl rfl (by rfl) (by rfl) (by kernel_rfl) ?_))
      obtain ⟨W7, hW7⟩ : ∃ W, W = (wr.alloc (.cells #[.int .u8 0, .string ⟨#[]⟩, .int .i64 0, .int .i64 0] 49)).setRow wr.heap.size #[.int .u8 xk, .string xt, .int .i64 xw, .int .i64 xp] := ⟨_, rfl⟩
      rw [← hW7] at P9 HK1 HS1 HOW7 ⊢
      clear hW7 Z1 d0 d1 d2 d3
      have OB7 := Lib.hid (OB.out.below (HB.out.trans (HK1.out.mono hwz)))
      have HB7 : Hid (Below W6.heap.size W6 W7) := HB.out.trans (HK1.out.mono hwz)
      obtain ⟨GB, hGB⟩ : ∃ s : ByteArray, s = ⟨(gapL (gapF gs k)).toArray⟩ := ⟨_, rfl⟩
      have gb : W7.cell? ⟨W5.heap.size, gapF gs k, none⟩ = some (.string GB) := by rw [hGB]; exact gap_cell OB7.out (gapF_lt gs k)
      have HGL : Hid (GB.data.toList = gapL (gapF gs k)) := by rw [Hid, hGB]
      have hgz : GB.size ≤ 13 := by
        have h1 : GB.size = (gapL (gapF gs k)).length := by rw [← HGL.out, Array.length_toList]; rfl
        have := gap_len (gapF gs k)
        omega
      have hf5 := gapF_lt gs k
      obtain ⟨fk, hfk⟩ : ∃ j, j = gapF gs k := ⟨_, rfl⟩
      rw [← hfk] at gb hf5
      have HFK := Lib.hid hfk
      clear hfk
      have HOT := Lib.hid (row_apart HOW7.out P9.out rfl)
      clear hGB
      have FIN : ∀ (v9 : Value) (w9 : World), w9.ownsRow W6.heap.size 5 1 v9 (pre.length + GB.size + xt.size) (Lib.byteCells pre ++ (Lib.strCells GB ++ Lib.strCells xt)) → w9.ownsRow W6.heap.size 5 1 v9 (pre ++ gapL (gapF gs k) ++ xt.data.toList).length (Lib.byteCells (pre ++ gapL (gapF gs k) ++ xt.data.toList)) := fun v9 w9 h => by
        rw [← List.append_assoc, str_cells, str_cells, HGL.out, ← Lib.byteCells_append, ← Lib.byteCells_append] at h
        have e1 : GB.size = (gapL (gapF gs k)).length := by rw [← HGL.out, Array.length_toList]; rfl
        have e2 : xt.size = xt.data.toList.length := by rw [Array.length_toList]; rfl
        rw [List.length_append, List.length_append, ← e1, ← e2]
        exact h
      have HFIN := Lib.hid FIN
      clear FIN
      by_cases hgk : k < gn
      · have gl : k < gs.length := by have := HGN.out; omega
        have gg : gs[k]? = some gs[k] := List.getElem?_eq_getElem gl
        obtain ⟨hxv, g2, off2, rfl, dg⟩ := HGC.out k _ gg
        have l2 := lt_of_at dg
        simp only at l2
        have BW : Below w.heap.size w W7 := (HBZ.out.trans (B56.out.mono HBZ.out.size)).trans (HB7.out.mono (Nat.le_trans HBZ.out.size B56.out.size))
        have dg := (BW.cell (p := ⟨g2, off2 + k, none⟩) l2).trans dg
        have hf : fk = gs[k] % 5 := by
          rw [HFK.out]; unfold gapF; rw [if_pos gl]
          simp [List.getD, gl]
        generalize gs[k] = xv at dg hf hxv
        have hrem : (wrap64 (xv : Int)).tmod 5 = (fk : Int) := by
          have hw : wrap64 (xv : Int) = xv := by unfold wrap64; omega
          rw [hw, hf]; exact (Int.ofNat_tmod xv 5).symm
        have gb' : W7.cell? ⟨W5.heap.size, xv % 5, none⟩ = some (.string GB) := by rw [← hf]; exact gb
        clear hf gg BW l2
        go_wp2_with (at_builtin; refine Lib.wpList_append_own_string _ rfl _ _ 36 9 rfl W6.heap.size 5 i0 Tryd.underlying36 Tryd.underlying9 hi hz0 hz1 hz2 _ _ _ rfl HOW7.out GB rfl ?c3 ?c4 ?c5 ?_)
        case c3 => simp only [maxLen]; omega
        case c4 => omega
        case c5 => have := HS1.out; omega
        intro v8 w8 hown8 hgrow8 _
        have O8 := own_grown P9.out hgrow8 HOT.out
        have x1 : w8.cell? ⟨wr.heap.size, 1, none⟩ = some (.string xt) := by rw [cell_of_row _ _ 1 _ _ _ O8]; rfl
        have HO8 := Lib.hid hown8
        have HB8 := Lib.hid (HB7.out.grown hgrow8 (by have := HS1.out; omega) (fun r hr => (HOW7.out.lt r hr).1))
        have hz8 := HB8.out.size
        clear hown8 hgrow8 O8
        go_wp2_with (at_builtin; refine Lib.wpList_append_own_string _ rfl _ _ 36 9 rfl W6.heap.size 5 i0 Tryd.underlying36 Tryd.underlying9 hi hz0 hz1 hz2 v8 _ _ rfl HO8.out xt rfl ?e3 ?e4 ?e5 ?_)
        case e3 => simp only [maxLen]; omega
        case e4 => omega
        case e5 => omega
        intro v9 w9 hown9 hgrow9 _
        have HO9 := Lib.hid (HFIN.out v9 w9 hown9)
        have HB9 := Lib.hid (HB8.out.grown hgrow9 hz8 (fun r hr => (HO8.out.lt r hr).1))
        clear hown9 hgrow9
        go_wp2_with fail
        go_roundg (n - (k + 1) + 1)
        case measure => have := HM.out; omega
        case rel =>
          refine ⟨k + 1, pre ++ gapL (gapF gs k) ++ xt.data.toList, rfl, by omega, by omega, HPRE2.out, ?_, HO9.out, HB9.out⟩
          rw [List.length_append, List.length_append]
          have e1 := gap_len (gapF gs k)
          have e2 : xt.data.toList.length = xt.size := by rw [Array.length_toList]; rfl
          omega
      · have hf : fk = 0 := by
          rw [HFK.out]; unfold gapF; rw [if_neg (by have := HGN.out; omega)]
        subst hf
        go_wp2_with (at_builtin; refine Lib.wpList_append_own_string _ rfl _ _ 36 9 rfl W6.heap.size 5 i0 Tryd.underlying36 Tryd.underlying9 hi hz0 hz1 hz2 _ _ _ rfl HOW7.out GB rfl ?c3 ?c4 ?c5 ?_)
        case c3 => simp only [maxLen]; omega
        case c4 => omega
        case c5 => have := HS1.out; omega
        intro v8 w8 hown8 hgrow8 _
        have O8 := own_grown P9.out hgrow8 HOT.out
        have x1 : w8.cell? ⟨wr.heap.size, 1, none⟩ = some (.string xt) := by rw [cell_of_row _ _ 1 _ _ _ O8]; rfl
        have HO8 := Lib.hid hown8
        have HB8 := Lib.hid (HB7.out.grown hgrow8 (by have := HS1.out; omega) (fun r hr => (HOW7.out.lt r hr).1))
        have hz8 := HB8.out.size
        clear hown8 hgrow8 O8
        go_wp2_with (at_builtin; refine Lib.wpList_append_own_string _ rfl _ _ 36 9 rfl W6.heap.size 5 i0 Tryd.underlying36 Tryd.underlying9 hi hz0 hz1 hz2 v8 _ _ rfl HO8.out xt rfl ?e3 ?e4 ?e5 ?_)
        case e3 => simp only [maxLen]; omega
        case e4 => omega
        case e5 => omega
        intro v9 w9 hown9 hgrow9 _
        have HO9 := Lib.hid (HFIN.out v9 w9 hown9)
        have HB9 := Lib.hid (HB8.out.grown hgrow9 hz8 (fun r hr => (HO8.out.lt r hr).1))
        clear hown9 hgrow9
        go_wp2_with fail
        go_roundg (n - (k + 1) + 1)
        case measure => have := HM.out; omega
        case rel =>
          refine ⟨k + 1, pre ++ gapL (gapF gs k) ++ xt.data.toList, rfl, by omega, by omega, HPRE2.out, ?_, HO9.out, HB9.out⟩
          rw [List.length_append, List.length_append]
          have e1 := gap_len (gapF gs k)
          have e2 : xt.data.toList.length = xt.size := by rw [Array.length_toList]; rfl
          omega
    · have hkn : k = n := by omega
      subst hkn
      have hdone : pre ++ [10] = gapsB (gapF gs) 0 xs := by
        rw [← HPRE.out, List.drop_of_length_le (by have := HN.out; omega)]; rfl
      have HD := Lib.hid hdone
      clear hdone
      obtain ⟨oa2, cap2, rfl, _⟩ := row_shape HOWN.out
      have hwz := HB.out.size
      have HBR : Hid (Below w.heap.size w wr) := (HBZ.out.trans (B56.out.mono HBZ.out.size)).trans (HB.out.mono (Nat.le_trans HBZ.out.size B56.out.size))
      by_cases hbig : 65536 < pre.length + 1
      · have hbg : decide ((65536 : Int) < (pre.length : Int) + 1) = true := by simp; omega
        go_wp2_with fail
        go_ret
        exact ⟨rfl, HBR.out⟩
      · have hsm : pre.length ≤ 65535 := by omega
        have hbg : decide ((65536 : Int) < (pre.length : Int) + 1) = false := by simp; omega
        go_wp2_with (at_builtin; refine wpList_append_own _ rfl _ _ 36 rfl W6.heap.size 5 i0 (.int .u8 0) 1 1 Tryd.underlying36 hi hz0 hz1 hz2 rfl (by decide) _ _ _ rfl (HOWN.out.alloc _) ⟨wr.heap.size, 0, none⟩ 1 1 [.int .u8 10] rfl rfl ?c1 ?c2 ?c3 ?c4 ?c5 ?_)
        case c1 =>
          intro j u hj
          match j, hj with
          | 0, hj => simp at hj; subst hj; simp [Addr.add]
        case c2 => intro u hu; simp at hu; subst hu; rfl
        case c3 => unfold maxLen; omega
        case c4 => omega
        case c5 => simp; omega
        intro v8 w8 hown8 hgrow8 _
        have hrow : w8.ownsRow W6.heap.size 5 1 v8 (pre ++ [10]).length (Lib.byteCells (pre ++ [10])) := by rw [Lib.byteCells_append, List.length_append]; exact hown8
        have hcv := conv_bytes hrow
        have hlen : (gapsB (gapF gs) 0 xs).length ≤ 65536 := by rw [← HD.out, List.length_append]; simp; omega
        rw [HD.out] at hcv
        have HB8 : Hid (Below w.heap.size w w8) := by
          have h6 := B56.out.size
          have h0 := HBZ.out.size
          exact ((HBR.out).alloc (by omega) _).grown hgrow8 (by simp; omega) (fun r hr => by have := (HOWN.out.lt r hr).1; omega)
        have HB58 : Hid (Below W5.heap.size W5 w8) := by
          have h6 := B56.out.size
          exact ((B56.out.trans (HB.out.mono h6)).alloc (by omega) _).grown hgrow8 (by simp; omega) (fun r hr => by have := (HOWN.out.lt r hr).1; omega)
        obtain ⟨r2, b2, c2, x, y, q1, q2, q3, q4, q5⟩ := blanks_pair H0.out (gapF gs) (by rw [← HXS.out]; exact hlen) HR1.out
        rw [← HXS.out] at q1
        have HQ1 := Lib.hid q1
        have HQ2 := Lib.hid q2
        have HQ3 := Lib.hid q3
        have HQ4 := Lib.hid (And.intro q4 q5)
        clear hown8 hgrow8 hrow hlen q1 q2 q3 q4 q5
        go_wp2_with fail
        go_at_call 12
        refine (HX.out _ _ HB8.out).mono ?_
        rintro e w10 ⟨hb10, V2, rfl, hz2, ho2, hv2⟩
        rw [HQ1.out] at hv2 ⊢
        have HV2 := Lib.hid hv2
        have HZ2 := Lib.hid (And.intro hz2 ho2)
        have Y1 := (Own.new w10 40 #[.slice none 0 0, .slice none 0 0, .slice none 0 0]).alloc (.cells #[.int .i64 0, .int .i64 0] 29)
        have Y2 := Own.new (w10.alloc (.cells #[.slice none 0 0, .slice none 0 0, .slice none 0 0] 40)) 29 #[.int .i64 0, .int .i64 0]
        rw [World.size_alloc] at Y2
        have Y2' := Y2.other (g := w10.heap.size) V2 (by omega)
        have P2 := Lib.hid ((Y1.row V2).other (g := w10.heap.size + 1) #[.int .i64 b2, .int .i64 c2] (by omega))
        have B5 := Below.of_row (Below.of_row (((Below.refl w10.heap.size w10).alloc (Nat.le_refl _) (.cells #[.slice none 0 0, .slice none 0 0, .slice none 0 0] 40)).alloc (by rw [World.size_alloc]; omega) (.cells #[.int .i64 0, .int .i64 0] 29)) (g := w10.heap.size) (Nat.le_refl _) V2) (g := w10.heap.size + 1) (by omega) #[.int .i64 b2, .int .i64 c2]
        have HB5 := Lib.hid B5
        have HB10 := Lib.hid hb10
        have P1 := Lib.hid (((P1.out.below HB58.out).below hb10).below B5)
        have HBF := Lib.hid ((HB8.out.trans (hb10.mono HB8.out.size)).trans (B5.mono (Nat.le_trans HB8.out.size hb10.size)))
        clear Y2 hb10 B5 hv2 hz2 ho2 hcv
        go_upto_region 21 with (first | (refine st rowPg rfl rfl Y1 rfl rfl HZ2.out.1 (by rfl) HZ2.out.2 ?_) | (refine st rowFl rfl rfl Y2' rfl rfl (by rfl) (by rfl) (by kernel_rfl) ?_))
        obtain ⟨W11, hW11⟩ : ∃ W, W = ((((w10.alloc (.cells #[.slice none 0 0, .slice none 0 0, .slice none 0 0] 40)).alloc (.cells #[.int .i64 0, .int .i64 0] 29)).setRow w10.heap.size V2).setRow (w10.heap.size + 1) #[.int .i64 b2, .int .i64 c2]) := ⟨_, rfl⟩
        rw [← hW11] at P1 P2 HB5 HBF ⊢
        clear hW11 Y1 Y2'
        have A1 : pA W11 x (.agg V1) := pA_below (pA_below (pA_below (pA_below (pA_below (HV1.out x HQ2.out) HB3.out) HB34.out) HB58.out) HB10.out) HB5.out
        have A2 : pA W11 y (.agg V2) := pA_below (HV2.out y HQ3.out) HB5.out
        have HC : Hid (Calls Tryd.prog 14 #[.agg V1, .agg V2] W11 fun e' w' => e' = .returned (.bool true) ∧ Below W11.heap.size W11 w') := by
          have := p_Same x HQ4.out.2 y _ _ _ A1 A2
          rw [HQ4.out.1] at this
          exact this
        obtain ⟨v0, v1, v2, rfl⟩ := arr_three HZ1.out.1
        obtain ⟨y0, y1, y2, rfl⟩ := arr_three HZ2.out.1
        have cA0 : W11.cell? ⟨w2.heap.size, 0, none⟩ = some v0 := by rw [cell_of_row _ _ 0 _ _ _ P1.out]; rfl
        have cA1 : W11.cell? ⟨w2.heap.size, 1, none⟩ = some v1 := by rw [cell_of_row _ _ 1 _ _ _ P1.out]; rfl
        have cA2 : W11.cell? ⟨w2.heap.size, 2, none⟩ = some v2 := by rw [cell_of_row _ _ 2 _ _ _ P1.out]; rfl
        have cB0 : W11.cell? ⟨w10.heap.size, 0, none⟩ = some y0 := by rw [cell_of_row _ _ 0 _ _ _ P2.out]; rfl
        have cB1 : W11.cell? ⟨w10.heap.size, 1, none⟩ = some y1 := by rw [cell_of_row _ _ 1 _ _ _ P2.out]; rfl
        have cB2 : W11.cell? ⟨w10.heap.size, 2, none⟩ = some y2 := by rw [cell_of_row _ _ 2 _ _ _ P2.out]; rfl
        clear A1 A2
        go_wp2_with (first | (go_at_call 14; refine (HC.out).mono ?_; rintro e w12 ⟨rfl, hb12⟩; have HB12 := Lib.hid hb12; clear hb12))
        go_ret
        exact ⟨rfl, HBF.out.trans (HB12.out.mono HBF.out.size)⟩
end Go.Proofs.YtjpmdafaaonpoaaDoor

namespace Go.Proofs.YtjpmdafaaonpoaaDoor
open Go.ChangeShapes Go.WideShapes Go.ChangeAt Go.WideMaps Go.WideElems Go.RowKit Go.ChangeShapes
set_option linter.unusedVariables false
theorem laidOut : laidOutB Tryd.prog = true := by kernel_rfl
theorem cellsU8 : Tryd.prog.cellsOf 5 = 1 := by kernel_rfl
set_option maxRecDepth 100000 in
theorem gapArg_of {H : Type} {enc : TypeId × Value → H} {W : World} {sp : Nat → Bool} {held : Bool} {r : Reach} {b0 : Nat} {v : Value} {d : DataW H} {ps : List MemPlace}
    (hval : Value.okWide Tryd.prog W r b0 36 v) (hd : DataW.Trod enc Tryd.prog W 0 sp held 36 v d ps) : ∃ gs, GapA W v gs ∧ gs.length ≤ 9223372036854775807 := by
  obtain ⟨a0, len0, cap0, rfl⟩ := okWide_slice Tryd.underlying36 hval
  obtain ⟨fuel, hf⟩ := hd
  rcases open_ints Tryd.underlying36 Tryd.underlying5 cellsU8 hf with ⟨hcs, _⟩ | ⟨a, len, cap, zs, hcs, _, hl, hm, hzl, _, hcell, hwf⟩
  · have hv : Value.slice a0 len0 cap0 = .slice none 0 0 := by simpa [Value.cells] using hcs
    rw [hv]
    exact ⟨[], ⟨none, 0, rfl, fun i x h => by simp at h⟩, by simp⟩
  · have hv : Value.slice a0 len0 cap0 = .slice (some a) len cap := by simpa [Value.cells] using hcs
    rw [hv]
    have hlz : len ≤ zs.length := by rw [hzl]; split <;> omega
    refine ⟨(zs.take len).map Int.toNat, ⟨some a, cap, by rw [List.length_map, List.length_take, Nat.min_eq_left hlz], fun i x hx => ?_⟩, by rw [List.length_map, List.length_take]; unfold maxLen at hm; omega⟩
    rw [List.getElem?_map] at hx
    obtain ⟨z, hz, rfl⟩ := Option.map_eq_some_iff.1 hx
    have hi : i < len := by
      have := (List.getElem?_eq_some_iff.1 hz).1
      rw [List.length_take] at this
      omega
    have hz2 : zs[i]? = some z := by rw [List.getElem?_take] at hz; rw [if_pos hi] at hz; exact hz
    have hmem : z ∈ zs := List.mem_of_getElem? hz2
    have hbd := u8_bd (hwf z hmem)
    have hgd : zs.getD i 0 = z := by simp [List.getD, hz2]
    have hc := hcell i (by omega)
    rw [hgd] at hc
    have hspot : a.spot = none := by
      have := World.cell?_spot (hcell 0 (by omega))
      simpa [Addr.add] using this
    obtain ⟨g, off, spot⟩ := a
    simp only at hspot
    subst hspot
    refine ⟨by omega, g, off, rfl, ?_⟩
    have hadd : (⟨g, off, none⟩ : Addr).add i = ⟨g, off + i, none⟩ := by
      by_cases h0 : i = 0
      · subst h0; rfl
      · simp [Addr.add, h0]
    rw [hadd] at hc
    rw [hc]
    congr 2
    omega
theorem blanks_walk {w : World} (s : ByteArray) (gv : Value) (gs : List Nat) (hg : GapA w gv gs) (hgs : gs.length ≤ 9223372036854775807) (TT : LTabs w ∧ Tabs w) : Calls Tryd.prog 4 #[.string s, gv] w fun e w' => e = .returned (.bool true) ∧ Below w.heap.size w w' := by
  by_cases h : (scanX s).2.1 = 0
  · generalize h1 : said_P s = R
    obtain ⟨r1, a, b, c⟩ := R
    exact blanks_good s gv gs w TT hg h1 h hgs
  · rcases saidP_bad h with ⟨b, c, sb, sc, h1, h2⟩ | ⟨b, c, sb, sc, h1, h2⟩
    · exact blanks_bad4 s gv gs w TT hg h1 h2
    · exact blanks_bad30 s gv gs w TT hg h1 h2
/-- The last step of a law that reads memory through its arguments and answers true. -/
theorem law_post_at {H : Type} {enc : TypeId × Value → H} {P : Program} {f : Func} {s : ChangeSpec} {W W' : World} {args : Array Value} {tb : TypeId} {ds : List (DataW H)} {ps : List MemPlace}
    (hW : DataW.Whole enc P f.params.toList s.vars false W args.toList ds [] ps) (hres : f.resultTypes = #[tb]) (hb : P.underlying tb = some .bool)
    (hvars : s.vars = []) (hfn : (s.fn H (ds ++ [])).results = [.lit (.bool true)]) (hfa : (s.fn H (ds ++ [])).args = ds) (hfv : (s.fn H (ds ++ [])).vars = [])
    (hargs : ∀ sp : Nat → Bool, (∀ p ∈ ps, sp p.block = true) → DataW.TrodAll enc P W' 0 sp true f.params.toList args.toList ds ps)
    (hk : Below W.heap.size W W') : s.post enc P f false true false false W args (.bool true) W' := by
  have hr : ∀ (b : Nat) (sp : Nat → Bool) (hd : Bool), DataW.TrodAll enc P W' b sp hd f.resultTypes.toList ((Value.bool true).resultList f.resultTypes.size) (s.fn H (ds ++ [])).results [] := fun b sp hd => by
    rw [hfn, hres]
    exact trodAll_mk1 (shut_bool hb _)
  have ha : ∀ sp : Nat → Bool, (∀ p ∈ ps, sp p.block = true) → DataW.TrodAll enc P W' 0 sp true f.params.toList args.toList (s.fn H (ds ++ [])).args ps := fun sp hsp => by
    rw [hfa]; exact hargs sp hsp
  have hv : ∀ sp : Nat → Bool, DataW.TrodVars enc P W' sp s.vars (s.fn H (ds ++ [])).vars [] := fun sp => by
    rw [hvars, hfv]; rfl
  have hold : ∀ p ∈ ps, (fun b => decide (b < W.heap.size)) p.block = true := fun p hp => by simpa using hW.lt p hp
  have hW2 := hW
  obtain ⟨_, _, _, _, _, hz, hn⟩ := hW2
  refine ⟨ds, [], ps, [], ps, [], hW, hr _ _ _, ha _ hold, hv _, World.keptBut_mono (fun p hp => ⟨hp, Or.inr (Or.inl hp)⟩) (hk.frame (· ∈ ps)), fun _ => ?_⟩
  refine ⟨ok_one hres rfl (okWide_bool_mk hb _), _, _, ([] ++ ps) ++ [], ⟨[] ++ ps, [], trodAll_append (ha _ (fun _ _ => rfl)) (hr _ _ _), hv _, rfl, ?_, ?_⟩, ?_⟩
  · intro b off hp
    have hp' : MemPlace.cell b off ∈ ps := by simpa using hp
    rw [hk.frozen (p := ⟨b, off, none⟩) (hW.lt _ hp')]
    exact hz b off hp'
  · intro hx; cases hx
  · intro p hp _
    simpa using hp
end Go.Proofs.YtjpmdafaaonpoaaDoor

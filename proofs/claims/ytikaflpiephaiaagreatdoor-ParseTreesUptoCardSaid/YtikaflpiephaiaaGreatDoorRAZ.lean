/- The proof, part 26: texts that belong together, in one. -/
import Derived.Test.YtikaflpiephaiaaGreatDoorRAY
set_option maxRecDepth 100000
set_option maxHeartbeats 20000000
namespace Go.Proofs.YtikaflpiephaiaaGreatDoor
open Go.RowKit
set_option linter.unusedVariables false
def sameBy {α : Type} (f : α → α → Bool) : List α → List α → Bool
 | [], [] => true
 | x :: r, y :: s => f x y && sameBy f r s
 | _, _ => false
theorem sameBy_len {α : Type} {f : α → α → Bool} : ∀ (l m : List α), sameBy f l m = true → l.length = m.length
 | [], [], _ => rfl
 | [], _ :: _, h => by simp [sameBy] at h
 | _ :: _, [], h => by simp [sameBy] at h
 | x :: r, y :: s, h => by
   simp only [sameBy, Bool.and_eq_true] at h
   have := sameBy_len r s h.2
   simp [this]
theorem sameBy_ne {α : Type} {f : α → α → Bool} {l m : List α} (h : l.length ≠ m.length) : sameBy f l m = false := by
 cases hs : sameBy f l m with
 | false => rfl
 | true => exact absurd (sameBy_len l m hs) h
theorem sameBy_step {α : Type} {f : α → α → Bool} {l m : List α} {i : Nat} (hl : i < l.length) (hm : i < m.length) : sameBy f (l.drop i) (m.drop i) = (f l[i] m[i] && sameBy f (l.drop (i + 1)) (m.drop (i + 1))) := by
 rw [List.drop_eq_getElem_cons hl, List.drop_eq_getElem_cons hm]
 rfl
theorem sameBy_end {α : Type} {f : α → α → Bool} {l m : List α} {i : Nat} (hl : l.length ≤ i) (hm : m.length ≤ i) : sameBy f (l.drop i) (m.drop i) = true := by
 rw [List.drop_of_length_le hl, List.drop_of_length_le hm]
 rfl
theorem stsAt_below {w w' : World} {l : List St} {a : Option Addr} (h : stsAt (fun _ => True) w l a) (hb : Below w.heap.size w w') : stsAt (fun _ => True) w' l a := by
 have h := stsAt_in h
 exact stsAt_stays (R := fun b => True ∧ b < w.heap.size) (fun b o v hb2 hv => by rw [← hv]; exact hb.cell (p := ⟨b, o, none⟩) hb2.2) (fun _ _ => trivial) h
theorem dcsAt_below {w w' : World} {l : List Dc} {a : Option Addr} (h : dcsAt (fun _ => True) w l a) (hb : Below w.heap.size w w') : dcsAt (fun _ => True) w' l a := by
 have h := dcsAt_in h
 exact dcsAt_stays (R := fun b => True ∧ b < w.heap.size) (fun b o v hb2 hv => by rw [← hv]; exact hb.cell (p := ⟨b, o, none⟩) hb2.2) (fun _ _ => trivial) h
theorem thsAt_in {R : Nat → Prop} {w : World} {l : List Th} {a : Option Addr} (h : thsAt R w l a) : thsAt (fun b => R b ∧ b < w.heap.size) w l a := by
 rcases h with h | ⟨g, q, rfl, hg, hi⟩
 · exact .inl h
 · cases l with
   | nil => exact .inl rfl
   | cons t r =>
     refine .inr ⟨g, q, rfl, ⟨hg, cell_lt hi.1.1⟩, ?_⟩
     have key : ∀ (l : List Th) (q : Nat), thsIn R w l g q → thsIn (fun b => R b ∧ b < w.heap.size) w l g q := by
      intro l
      induction l with
      | nil => intro q _; exact trivial
      | cons x s ih =>
        intro q h
        obtain ⟨⟨h1, ⟨a1, c1, h2, h3⟩, ⟨a2, c2, h4, h5⟩, h6⟩, h7⟩ := h
        exact ⟨⟨h1, ⟨a1, c1, h2, dcsAt_in h3⟩, ⟨a2, c2, h4, stsAt_in h5⟩, h6⟩, ih _ h7⟩
     exact key _ _ hi
theorem thsAt_below {w w' : World} {l : List Th} {a : Option Addr} (h : thsAt (fun _ => True) w l a) (hb : Below w.heap.size w w') : thsAt (fun _ => True) w' l a := by
 have h := thsAt_in h
 exact thsAt_stays (R := fun b => True ∧ b < w.heap.size) (fun b o v hb2 hv => by rw [← hv]; exact hb.cell (p := ⟨b, o, none⟩) hb2.2) (fun _ _ => trivial) h
theorem stsIn_got {R : Nat → Prop} {w : World} {l : List St} {b off : Nat} (i : Nat) (x : St) (h : stsIn R w l b off) (hx : l[i]? = some x) :
 w.cell? ⟨b, off + i * 7, none⟩ = some (.int .u8 x.kind) ∧ w.cell? ⟨b, off + i * 7 + 1, none⟩ = some (.string x.name) ∧ w.cell? ⟨b, off + i * 7 + 2, none⟩ = some (.string x.other) ∧
 (∃ a cap, w.cell? ⟨b, off + i * 7 + 3, none⟩ = some (.slice a x.e.length cap) ∧ exsAt R w x.e a) ∧ (∃ a cap, w.cell? ⟨b, off + i * 7 + 4, none⟩ = some (.slice a x.body.length cap) ∧ stsAt R w x.body a) ∧
 (∃ a cap, w.cell? ⟨b, off + i * 7 + 5, none⟩ = some (.slice a x.els.length cap) ∧ stsAt R w x.els a) ∧ w.cell? ⟨b, off + i * 7 + 6, none⟩ = some (.int .i64 x.pos) := by
 have h := stsIn_get i x h hx
 cases x
 exact h
def dA (w : World) (x : Dc) (v : Value) : Prop := v = .agg #[.string x.name, .int .i64 x.wd, .int .i64 x.pos]
def sA (w : World) (x : St) (v : Value) : Prop := ∃ ea ec bda bdc ela elc, v = .agg #[.int .u8 x.kind, .string x.name, .string x.other, .slice ea x.e.length ec, .slice bda x.body.length bdc, .slice ela x.els.length elc, .int .i64 x.pos] ∧ exsAt (fun _ => True) w x.e ea ∧ stsAt (fun _ => True) w x.body bda ∧ stsAt (fun _ => True) w x.els ela
def tA (w : World) (x : Th) (v : Value) : Prop := ∃ loa loc bda bdc, v = .agg #[.string x.name, .slice loa x.locals.length loc, .slice bda x.body.length bdc, .int .i64 x.pos] ∧ dcsAt (fun _ => True) w x.locals loa ∧ stsAt (fun _ => True) w x.body bda
theorem equal_d {f : Dc → Dc → Bool} {l : List Dc} (HI : ∀ x ∈ l, ∀ (y : Dc) (v u : Value) (w : World), dA w x v → dA w y u → Calls Tryz.prog 39 #[v, u] w fun e' w' => e' = .returned (.bool (f x y)) ∧ Below w.heap.size w w') {m : List Dc} {a b : Option Addr} {c1 c2 : Nat} {w : World} (hl : l.length ≤ 9223372036854775807) (h1 : dcsAt (fun _ => True) w l a) (h2 : dcsAt (fun _ => True) w m b) :
 Calls Tryz.prog 38 #[.slice a l.length c1, .slice b m.length c2, .func (.func 39) #[] #[]] w fun e w' => e = .returned (.bool (sameBy f l m)) ∧ Below w.heap.size w w' := by
 by_cases hne : l.length = m.length
 · obtain ⟨R, hR⟩ : ∃ R, R = sameBy f l m := ⟨_, rfl⟩
   rw [← hR]
   have HRR := Lib.hid hR
   have HI := Lib.hid HI
   have HL := Lib.hid hl
   have HLM := Lib.hid hne
   have E1 := Lib.hid h1
   have E2 := Lib.hid h2
   rw [← hne]
   obtain ⟨n, hn⟩ : ∃ n, n = l.length := ⟨_, rfl⟩
   rw [← hn]
   have HN := Lib.hid hn
   have hn6 : n ≤ 9223372036854775807 := by omega
   clear hl hne h1 h2 hR hn
   go_enter Tryz.func38, Tryz.ntmps38
   go_wp2_with fail
   go_loopg [17] (n + 1) (fun m' u W => ∃ i : Nat, u = .int .i64 (i : Int) ∧ i ≤ n ∧ m' = n - i + 1 ∧ sameBy f (l.drop i) (m.drop i) = R ∧ Below w.heap.size w W)
   case atStart => exact ⟨0, rfl, Nat.zero_le _, by omega, HRR.out.symm, Below.refl _ w⟩
   case round =>
    obtain ⟨i, rfl, hi, hm, hR, hb⟩ := hrel
    have HB := Lib.hid hb
    have HRI := Lib.hid hR
    have HM := Lib.hid hm
    clear hb hR hm
    by_cases hin : i < n
    · have HIN := Lib.hid hin
      have il : i < l.length := by have := HN.out; omega
      have im : i < m.length := by have := HLM.out; omega
      have g1 : l[i]? = some l[i] := List.getElem?_eq_getElem il
      have g2 : m[i]? = some m[i] := List.getElem?_eq_getElem im
      have hmem : l[i] ∈ l := List.getElem_mem il
      have hst := sameBy_step (f := f) il im
      generalize l[i] = x at g1 hst hmem
      generalize m[i] = y at g2 hst
      have HX := Lib.hid (HI.out x hmem)
      rcases E1.out with e | ⟨g, q, rfl, _, e1⟩
      · cases l with
        | nil => simp at il
        | cons => cases e
      rcases E2.out with e | ⟨g', q', rfl, _, e2⟩
      · cases m with
        | nil => simp at im
        | cons => cases e
      have x1 := dcsIn_get i x e1 g1
      have y1 := dcsIn_get i y e2 g2
      have HST := Lib.hid (HRI.out.symm.trans hst)
      obtain ⟨a0, a1, a2⟩ := x1
      obtain ⟨b0, b1, b2⟩ := y1
      have la := lt_of_at a0
      have lb := lt_of_at b0
      simp only at la lb
      have BX := HB.out
      have a0 := (BX.cell (p := ⟨g, q + i * 3, none⟩) la).trans a0
      have a1 := (BX.cell (p := ⟨g, q + i * 3 + 1, none⟩) la).trans a1
      have a2 := (BX.cell (p := ⟨g, q + i * 3 + 2, none⟩) la).trans a2
      have hbs := BX.size
      have BB := Lib.hid (And.intro b0 (And.intro b1 (b2)))
      clear hst hmem g1 g2 e1 e2  b0 b1 b2 il im
      have Z1 := Own.new wr 66 #[.string ⟨#[]⟩, .int .i64 0, .int .i64 0]
      have HK1 := Lib.hid (Below.of_row ((Below.refl wr.heap.size wr).alloc (Nat.le_refl _) (.cells #[.string ⟨#[]⟩, .int .i64 0, .int .i64 0] 66)) (g := wr.heap.size) (Nat.le_refl _) #[.string x.name, .int .i64 x.wd, .int .i64 x.pos])
      have P1 := Lib.hid (Z1.row #[.string x.name, .int .i64 x.wd, .int .i64 x.pos])
      have HS1 := Lib.hid ((size_setRow (wr.alloc (.cells #[.string ⟨#[]⟩, .int .i64 0, .int .i64 0] 66)) wr.heap.size #[.string x.name, .int .i64 x.wd, .int .i64 x.pos]).trans (World.size_alloc _ _))
      go_upto_region 6 with (first | (refine st rowDc rfl rfl Z1 rfl rfl (by rfl) (by rfl) (by kernel_rfl) ?_))
      obtain ⟨W1, hW1⟩ : ∃ W, W = (wr.alloc (.cells #[.string ⟨#[]⟩, .int .i64 0, .int .i64 0] 66)).setRow wr.heap.size #[.string x.name, .int .i64 x.wd, .int .i64 x.pos] := ⟨_, rfl⟩
      rw [← hW1] at P1 HK1 HS1 ⊢
      clear hW1 Z1 a0 a1 a2
      obtain ⟨b0, b1, b2⟩ := BB.out
      have BX := HB.out.trans (HK1.out.mono hbs)
      have b0 := (BX.cell (p := ⟨g', q' + i * 3, none⟩) lb).trans b0
      have b1 := (BX.cell (p := ⟨g', q' + i * 3 + 1, none⟩) lb).trans b1
      have b2 := (BX.cell (p := ⟨g', q' + i * 3 + 2, none⟩) lb).trans b2
      have Z2 := Own.new W1 66 #[.string ⟨#[]⟩, .int .i64 0, .int .i64 0]
      have K2 := Lib.hid (Below.of_row ((Below.refl W1.heap.size W1).alloc (Nat.le_refl _) (.cells #[.string ⟨#[]⟩, .int .i64 0, .int .i64 0] 66)) (g := W1.heap.size) (Nat.le_refl _) #[.string y.name, .int .i64 y.wd, .int .i64 y.pos])
      have P2 := Lib.hid (Z2.row #[.string y.name, .int .i64 y.wd, .int .i64 y.pos])
      clear BX
      go_upto_region 7 with (first | (refine st rowDc rfl rfl Z2 rfl rfl (by rfl) (by rfl) (by kernel_rfl) ?_))
      obtain ⟨W2, hW2⟩ : ∃ W, W = (W1.alloc (.cells #[.string ⟨#[]⟩, .int .i64 0, .int .i64 0] 66)).setRow W1.heap.size #[.string y.name, .int .i64 y.wd, .int .i64 y.pos] := ⟨_, rfl⟩
      rw [← hW2] at P2 K2 ⊢
      clear hW2 Z2 b0 b1 b2
      have o1 := P1.out.below K2.out
      have o2 := P2.out
      have BW : Hid (Below w.heap.size w W2) := (HB.out.trans (HK1.out.mono hbs)).trans (K2.out.mono (by have := HS1.out; omega))
      have HC : Hid (Calls Tryz.prog 39 #[.agg #[.string x.name, .int .i64 x.wd, .int .i64 x.pos], .agg #[.string y.name, .int .i64 y.wd, .int .i64 y.pos]] W2 fun e' w' => e' = .returned (.bool (f x y)) ∧ Below W2.heap.size W2 w') :=
       HX.out _ _ _ _ rfl rfl
      generalize f x y = B at HST HC
      cases B with
      | false =>
        go_wp2_with (first | (refine ld rowDc rfl rfl rfl o1 rfl ?_) | (refine ld rowDc rfl rfl rfl o2 rfl ?_) | (go_at_call 39; refine (HC.out).mono ?_; rintro e w3 ⟨rfl, hb3⟩; have HB3 := Lib.hid hb3; clear hb3))
        go_ret
        refine ⟨by rw [HST.out]; rfl, BW.out.trans (HB3.out.mono (BW.out.size))⟩
      | true =>
        go_wp2_with (first | (refine ld rowDc rfl rfl rfl o1 rfl ?_) | (refine ld rowDc rfl rfl rfl o2 rfl ?_) | (go_at_call 39; refine (HC.out).mono ?_; rintro e w3 ⟨rfl, hb3⟩; have HB3 := Lib.hid hb3; clear hb3))
        go_roundg (n - (i + 1) + 1)
        case measure => have := HM.out; omega
        case rel => exact ⟨i + 1, rfl, by omega, by omega, by rw [HST.out]; simp, BW.out.trans (HB3.out.mono (BW.out.size))⟩
    · have : i = n := by omega
      subst this
      have hR : R = true := by rw [← HRI.out]; exact sameBy_end (by have := HN.out; omega) (by have := HLM.out; have := HN.out; omega)
      have HRT := Lib.hid hR
      clear hR
      go_wp2_with fail
      go_ret
      exact ⟨by rw [HRT.out]; rfl, HB.out⟩
 · rw [sameBy_ne hne]
   obtain ⟨n, hn⟩ : ∃ n, n = l.length := ⟨_, rfl⟩
   obtain ⟨k, hk⟩ : ∃ k, k = m.length := ⟨_, rfl⟩
   rw [← hn] at hne hl ⊢
   rw [← hk] at hne ⊢
   have hq : ((n : Int) == (k : Int)) = false := by simp; omega
   clear h1 h2 HI hn hk
   go_enter Tryz.func38, Tryz.ntmps38
   go_wp2_with fail
   go_ret
   exact ⟨rfl, Below.refl _ w⟩
theorem equal_s {f : St → St → Bool} {l : List St} (HI : ∀ x ∈ l, ∀ (y : St) (v u : Value) (w : World), sA w x v → sA w y u → Calls Tryz.prog 80 #[v, u] w fun e' w' => e' = .returned (.bool (f x y)) ∧ Below w.heap.size w w') {m : List St} {a b : Option Addr} {c1 c2 : Nat} {w : World} (hl : l.length ≤ 9223372036854775807) (h1 : stsAt (fun _ => True) w l a) (h2 : stsAt (fun _ => True) w m b) :
 Calls Tryz.prog 79 #[.slice a l.length c1, .slice b m.length c2, .func (.func 80) #[] #[]] w fun e w' => e = .returned (.bool (sameBy f l m)) ∧ Below w.heap.size w w' := by
 by_cases hne : l.length = m.length
 · obtain ⟨R, hR⟩ : ∃ R, R = sameBy f l m := ⟨_, rfl⟩
   rw [← hR]
   have HRR := Lib.hid hR
   have HI := Lib.hid HI
   have HL := Lib.hid hl
   have HLM := Lib.hid hne
   have E1 := Lib.hid h1
   have E2 := Lib.hid h2
   rw [← hne]
   obtain ⟨n, hn⟩ : ∃ n, n = l.length := ⟨_, rfl⟩
   rw [← hn]
   have HN := Lib.hid hn
   have hn6 : n ≤ 9223372036854775807 := by omega
   clear hl hne h1 h2 hR hn
   go_enter Tryz.func79, Tryz.ntmps79
   go_wp2_with fail
   go_loopg [17] (n + 1) (fun m' u W => ∃ i : Nat, u = .int .i64 (i : Int) ∧ i ≤ n ∧ m' = n - i + 1 ∧ sameBy f (l.drop i) (m.drop i) = R ∧ Below w.heap.size w W)
   case atStart => exact ⟨0, rfl, Nat.zero_le _, by omega, HRR.out.symm, Below.refl _ w⟩
   case round =>
    obtain ⟨i, rfl, hi, hm, hR, hb⟩ := hrel
    have HB := Lib.hid hb
    have HRI := Lib.hid hR
    have HM := Lib.hid hm
    clear hb hR hm
    by_cases hin : i < n
    · have HIN := Lib.hid hin
      have il : i < l.length := by have := HN.out; omega
      have im : i < m.length := by have := HLM.out; omega
      have g1 : l[i]? = some l[i] := List.getElem?_eq_getElem il
      have g2 : m[i]? = some m[i] := List.getElem?_eq_getElem im
      have hmem : l[i] ∈ l := List.getElem_mem il
      have hst := sameBy_step (f := f) il im
      generalize l[i] = x at g1 hst hmem
      generalize m[i] = y at g2 hst
      have HX := Lib.hid (HI.out x hmem)
      rcases E1.out with e | ⟨g, q, rfl, _, e1⟩
      · cases l with
        | nil => simp at il
        | cons => cases e
      rcases E2.out with e | ⟨g', q', rfl, _, e2⟩
      · cases m with
        | nil => simp at im
        | cons => cases e
      have x1 := stsIn_got i x e1 g1
      have y1 := stsIn_got i y e2 g2
      have HST := Lib.hid (HRI.out.symm.trans hst)
      obtain ⟨a0, a1, a2, ⟨ea1, ec1, a3, he1⟩, ⟨bda1, bdc1, a4, hbd1⟩, ⟨ela1, elc1, a5, hel1⟩, a6⟩ := x1
      obtain ⟨b0, b1, b2, ⟨ea2, ec2, b3, he2⟩, ⟨bda2, bdc2, b4, hbd2⟩, ⟨ela2, elc2, b5, hel2⟩, b6⟩ := y1
      have He1 := Lib.hid he1
      have He2 := Lib.hid he2
      have Hbd1 := Lib.hid hbd1
      have Hbd2 := Lib.hid hbd2
      have Hel1 := Lib.hid hel1
      have Hel2 := Lib.hid hel2
      have la := lt_of_at a0
      have lb := lt_of_at b0
      simp only at la lb
      have BX := HB.out
      have a0 := (BX.cell (p := ⟨g, q + i * 7, none⟩) la).trans a0
      have a1 := (BX.cell (p := ⟨g, q + i * 7 + 1, none⟩) la).trans a1
      have a2 := (BX.cell (p := ⟨g, q + i * 7 + 2, none⟩) la).trans a2
      have a3 := (BX.cell (p := ⟨g, q + i * 7 + 3, none⟩) la).trans a3
      have a4 := (BX.cell (p := ⟨g, q + i * 7 + 4, none⟩) la).trans a4
      have a5 := (BX.cell (p := ⟨g, q + i * 7 + 5, none⟩) la).trans a5
      have a6 := (BX.cell (p := ⟨g, q + i * 7 + 6, none⟩) la).trans a6
      have hbs := BX.size
      have BB := Lib.hid (And.intro b0 (And.intro b1 (And.intro b2 (And.intro b3 (And.intro b4 (And.intro b5 (b6)))))))
      clear hst hmem g1 g2 e1 e2 he1 he2 hbd1 hbd2 hel1 hel2 b0 b1 b2 b3 b4 b5 b6 il im
      have Z1 := Own.new wr 69 #[.int .u8 0, .string ⟨#[]⟩, .string ⟨#[]⟩, .slice none 0 0, .slice none 0 0, .slice none 0 0, .int .i64 0]
      have HK1 := Lib.hid (Below.of_row ((Below.refl wr.heap.size wr).alloc (Nat.le_refl _) (.cells #[.int .u8 0, .string ⟨#[]⟩, .string ⟨#[]⟩, .slice none 0 0, .slice none 0 0, .slice none 0 0, .int .i64 0] 69)) (g := wr.heap.size) (Nat.le_refl _) #[.int .u8 x.kind, .string x.name, .string x.other, .slice ea1 x.e.length ec1, .slice bda1 x.body.length bdc1, .slice ela1 x.els.length elc1, .int .i64 x.pos])
      have P1 := Lib.hid (Z1.row #[.int .u8 x.kind, .string x.name, .string x.other, .slice ea1 x.e.length ec1, .slice bda1 x.body.length bdc1, .slice ela1 x.els.length elc1, .int .i64 x.pos])
      have HS1 := Lib.hid ((size_setRow (wr.alloc (.cells #[.int .u8 0, .string ⟨#[]⟩, .string ⟨#[]⟩, .slice none 0 0, .slice none 0 0, .slice none 0 0, .int .i64 0] 69)) wr.heap.size #[.int .u8 x.kind, .string x.name, .string x.other, .slice ea1 x.e.length ec1, .slice bda1 x.body.length bdc1, .slice ela1 x.els.length elc1, .int .i64 x.pos]).trans (World.size_alloc _ _))
      go_upto_region 6 with (first | (refine st rowSt rfl rfl Z1 rfl rfl (by rfl) (by rfl) (by kernel_rfl) ?_))
      obtain ⟨W1, hW1⟩ : ∃ W, W = (wr.alloc (.cells #[.int .u8 0, .string ⟨#[]⟩, .string ⟨#[]⟩, .slice none 0 0, .slice none 0 0, .slice none 0 0, .int .i64 0] 69)).setRow wr.heap.size #[.int .u8 x.kind, .string x.name, .string x.other, .slice ea1 x.e.length ec1, .slice bda1 x.body.length bdc1, .slice ela1 x.els.length elc1, .int .i64 x.pos] := ⟨_, rfl⟩
      rw [← hW1] at P1 HK1 HS1 ⊢
      clear hW1 Z1 a0 a1 a2 a3 a4 a5 a6
      obtain ⟨b0, b1, b2, b3, b4, b5, b6⟩ := BB.out
      have BX := HB.out.trans (HK1.out.mono hbs)
      have b0 := (BX.cell (p := ⟨g', q' + i * 7, none⟩) lb).trans b0
      have b1 := (BX.cell (p := ⟨g', q' + i * 7 + 1, none⟩) lb).trans b1
      have b2 := (BX.cell (p := ⟨g', q' + i * 7 + 2, none⟩) lb).trans b2
      have b3 := (BX.cell (p := ⟨g', q' + i * 7 + 3, none⟩) lb).trans b3
      have b4 := (BX.cell (p := ⟨g', q' + i * 7 + 4, none⟩) lb).trans b4
      have b5 := (BX.cell (p := ⟨g', q' + i * 7 + 5, none⟩) lb).trans b5
      have b6 := (BX.cell (p := ⟨g', q' + i * 7 + 6, none⟩) lb).trans b6
      have Z2 := Own.new W1 69 #[.int .u8 0, .string ⟨#[]⟩, .string ⟨#[]⟩, .slice none 0 0, .slice none 0 0, .slice none 0 0, .int .i64 0]
      have K2 := Lib.hid (Below.of_row ((Below.refl W1.heap.size W1).alloc (Nat.le_refl _) (.cells #[.int .u8 0, .string ⟨#[]⟩, .string ⟨#[]⟩, .slice none 0 0, .slice none 0 0, .slice none 0 0, .int .i64 0] 69)) (g := W1.heap.size) (Nat.le_refl _) #[.int .u8 y.kind, .string y.name, .string y.other, .slice ea2 y.e.length ec2, .slice bda2 y.body.length bdc2, .slice ela2 y.els.length elc2, .int .i64 y.pos])
      have P2 := Lib.hid (Z2.row #[.int .u8 y.kind, .string y.name, .string y.other, .slice ea2 y.e.length ec2, .slice bda2 y.body.length bdc2, .slice ela2 y.els.length elc2, .int .i64 y.pos])
      clear BX
      go_upto_region 7 with (first | (refine st rowSt rfl rfl Z2 rfl rfl (by rfl) (by rfl) (by kernel_rfl) ?_))
      obtain ⟨W2, hW2⟩ : ∃ W, W = (W1.alloc (.cells #[.int .u8 0, .string ⟨#[]⟩, .string ⟨#[]⟩, .slice none 0 0, .slice none 0 0, .slice none 0 0, .int .i64 0] 69)).setRow W1.heap.size #[.int .u8 y.kind, .string y.name, .string y.other, .slice ea2 y.e.length ec2, .slice bda2 y.body.length bdc2, .slice ela2 y.els.length elc2, .int .i64 y.pos] := ⟨_, rfl⟩
      rw [← hW2] at P2 K2 ⊢
      clear hW2 Z2 b0 b1 b2 b3 b4 b5 b6
      have o1 := P1.out.below K2.out
      have o2 := P2.out
      have BW : Hid (Below w.heap.size w W2) := (HB.out.trans (HK1.out.mono hbs)).trans (K2.out.mono (by have := HS1.out; omega))
      have HC : Hid (Calls Tryz.prog 80 #[.agg #[.int .u8 x.kind, .string x.name, .string x.other, .slice ea1 x.e.length ec1, .slice bda1 x.body.length bdc1, .slice ela1 x.els.length elc1, .int .i64 x.pos], .agg #[.int .u8 y.kind, .string y.name, .string y.other, .slice ea2 y.e.length ec2, .slice bda2 y.body.length bdc2, .slice ela2 y.els.length elc2, .int .i64 y.pos]] W2 fun e' w' => e' = .returned (.bool (f x y)) ∧ Below W2.heap.size W2 w') :=
       HX.out _ _ _ _ ⟨ea1, ec1, bda1, bdc1, ela1, elc1, rfl, exsAt_below He1.out BW.out, stsAt_below Hbd1.out BW.out, stsAt_below Hel1.out BW.out⟩ ⟨ea2, ec2, bda2, bdc2, ela2, elc2, rfl, exsAt_below He2.out BW.out, stsAt_below Hbd2.out BW.out, stsAt_below Hel2.out BW.out⟩
      generalize f x y = B at HST HC
      cases B with
      | false =>
        go_wp2_with (first | (refine ld rowSt rfl rfl rfl o1 rfl ?_) | (refine ld rowSt rfl rfl rfl o2 rfl ?_) | (go_at_call 80; refine (HC.out).mono ?_; rintro e w3 ⟨rfl, hb3⟩; have HB3 := Lib.hid hb3; clear hb3))
        go_ret
        refine ⟨by rw [HST.out]; rfl, BW.out.trans (HB3.out.mono (BW.out.size))⟩
      | true =>
        go_wp2_with (first | (refine ld rowSt rfl rfl rfl o1 rfl ?_) | (refine ld rowSt rfl rfl rfl o2 rfl ?_) | (go_at_call 80; refine (HC.out).mono ?_; rintro e w3 ⟨rfl, hb3⟩; have HB3 := Lib.hid hb3; clear hb3))
        go_roundg (n - (i + 1) + 1)
        case measure => have := HM.out; omega
        case rel => exact ⟨i + 1, rfl, by omega, by omega, by rw [HST.out]; simp, BW.out.trans (HB3.out.mono (BW.out.size))⟩
    · have : i = n := by omega
      subst this
      have hR : R = true := by rw [← HRI.out]; exact sameBy_end (by have := HN.out; omega) (by have := HLM.out; have := HN.out; omega)
      have HRT := Lib.hid hR
      clear hR
      go_wp2_with fail
      go_ret
      exact ⟨by rw [HRT.out]; rfl, HB.out⟩
 · rw [sameBy_ne hne]
   obtain ⟨n, hn⟩ : ∃ n, n = l.length := ⟨_, rfl⟩
   obtain ⟨k, hk⟩ : ∃ k, k = m.length := ⟨_, rfl⟩
   rw [← hn] at hne hl ⊢
   rw [← hk] at hne ⊢
   have hq : ((n : Int) == (k : Int)) = false := by simp; omega
   clear h1 h2 HI hn hk
   go_enter Tryz.func79, Tryz.ntmps79
   go_wp2_with fail
   go_ret
   exact ⟨rfl, Below.refl _ w⟩
theorem equal_t {f : Th → Th → Bool} {l : List Th} (HI : ∀ x ∈ l, ∀ (y : Th) (v u : Value) (w : World), tA w x v → tA w y u → Calls Tryz.prog 41 #[v, u] w fun e' w' => e' = .returned (.bool (f x y)) ∧ Below w.heap.size w w') {m : List Th} {a b : Option Addr} {c1 c2 : Nat} {w : World} (hl : l.length ≤ 9223372036854775807) (h1 : thsAt (fun _ => True) w l a) (h2 : thsAt (fun _ => True) w m b) :
 Calls Tryz.prog 40 #[.slice a l.length c1, .slice b m.length c2, .func (.func 41) #[] #[]] w fun e w' => e = .returned (.bool (sameBy f l m)) ∧ Below w.heap.size w w' := by
 by_cases hne : l.length = m.length
 · obtain ⟨R, hR⟩ : ∃ R, R = sameBy f l m := ⟨_, rfl⟩
   rw [← hR]
   have HRR := Lib.hid hR
   have HI := Lib.hid HI
   have HL := Lib.hid hl
   have HLM := Lib.hid hne
   have E1 := Lib.hid h1
   have E2 := Lib.hid h2
   rw [← hne]
   obtain ⟨n, hn⟩ : ∃ n, n = l.length := ⟨_, rfl⟩
   rw [← hn]
   have HN := Lib.hid hn
   have hn6 : n ≤ 9223372036854775807 := by omega
   clear hl hne h1 h2 hR hn
   go_enter Tryz.func40, Tryz.ntmps40
   go_wp2_with fail
   go_loopg [17] (n + 1) (fun m' u W => ∃ i : Nat, u = .int .i64 (i : Int) ∧ i ≤ n ∧ m' = n - i + 1 ∧ sameBy f (l.drop i) (m.drop i) = R ∧ Below w.heap.size w W)
   case atStart => exact ⟨0, rfl, Nat.zero_le _, by omega, HRR.out.symm, Below.refl _ w⟩
   case round =>
    obtain ⟨i, rfl, hi, hm, hR, hb⟩ := hrel
    have HB := Lib.hid hb
    have HRI := Lib.hid hR
    have HM := Lib.hid hm
    clear hb hR hm
    by_cases hin : i < n
    · have HIN := Lib.hid hin
      have il : i < l.length := by have := HN.out; omega
      have im : i < m.length := by have := HLM.out; omega
      have g1 : l[i]? = some l[i] := List.getElem?_eq_getElem il
      have g2 : m[i]? = some m[i] := List.getElem?_eq_getElem im
      have hmem : l[i] ∈ l := List.getElem_mem il
      have hst := sameBy_step (f := f) il im
      generalize l[i] = x at g1 hst hmem
      generalize m[i] = y at g2 hst
      have HX := Lib.hid (HI.out x hmem)
      rcases E1.out with e | ⟨g, q, rfl, _, e1⟩
      · cases l with
        | nil => simp at il
        | cons => cases e
      rcases E2.out with e | ⟨g', q', rfl, _, e2⟩
      · cases m with
        | nil => simp at im
        | cons => cases e
      have x1 := thsIn_get i x e1 g1
      have y1 := thsIn_get i y e2 g2
      have HST := Lib.hid (HRI.out.symm.trans hst)
      obtain ⟨a0, ⟨loa1, loc1, a1, hlo1⟩, ⟨bda1, bdc1, a2, hbd1⟩, a3⟩ := x1
      obtain ⟨b0, ⟨loa2, loc2, b1, hlo2⟩, ⟨bda2, bdc2, b2, hbd2⟩, b3⟩ := y1
      have Hlo1 := Lib.hid hlo1
      have Hlo2 := Lib.hid hlo2
      have Hbd1 := Lib.hid hbd1
      have Hbd2 := Lib.hid hbd2
      have la := lt_of_at a0
      have lb := lt_of_at b0
      simp only at la lb
      have BX := HB.out
      have a0 := (BX.cell (p := ⟨g, q + i * 4, none⟩) la).trans a0
      have a1 := (BX.cell (p := ⟨g, q + i * 4 + 1, none⟩) la).trans a1
      have a2 := (BX.cell (p := ⟨g, q + i * 4 + 2, none⟩) la).trans a2
      have a3 := (BX.cell (p := ⟨g, q + i * 4 + 3, none⟩) la).trans a3
      have hbs := BX.size
      have BB := Lib.hid (And.intro b0 (And.intro b1 (And.intro b2 (b3))))
      clear hst hmem g1 g2 e1 e2 hlo1 hlo2 hbd1 hbd2 b0 b1 b2 b3 il im
      have Z1 := Own.new wr 64 #[.string ⟨#[]⟩, .slice none 0 0, .slice none 0 0, .int .i64 0]
      have HK1 := Lib.hid (Below.of_row ((Below.refl wr.heap.size wr).alloc (Nat.le_refl _) (.cells #[.string ⟨#[]⟩, .slice none 0 0, .slice none 0 0, .int .i64 0] 64)) (g := wr.heap.size) (Nat.le_refl _) #[.string x.name, .slice loa1 x.locals.length loc1, .slice bda1 x.body.length bdc1, .int .i64 x.pos])
      have P1 := Lib.hid (Z1.row #[.string x.name, .slice loa1 x.locals.length loc1, .slice bda1 x.body.length bdc1, .int .i64 x.pos])
      have HS1 := Lib.hid ((size_setRow (wr.alloc (.cells #[.string ⟨#[]⟩, .slice none 0 0, .slice none 0 0, .int .i64 0] 64)) wr.heap.size #[.string x.name, .slice loa1 x.locals.length loc1, .slice bda1 x.body.length bdc1, .int .i64 x.pos]).trans (World.size_alloc _ _))
      go_upto_region 6 with (first | (refine st rowTh rfl rfl Z1 rfl rfl (by rfl) (by rfl) (by kernel_rfl) ?_))
      obtain ⟨W1, hW1⟩ : ∃ W, W = (wr.alloc (.cells #[.string ⟨#[]⟩, .slice none 0 0, .slice none 0 0, .int .i64 0] 64)).setRow wr.heap.size #[.string x.name, .slice loa1 x.locals.length loc1, .slice bda1 x.body.length bdc1, .int .i64 x.pos] := ⟨_, rfl⟩
      rw [← hW1] at P1 HK1 HS1 ⊢
      clear hW1 Z1 a0 a1 a2 a3
      obtain ⟨b0, b1, b2, b3⟩ := BB.out
      have BX := HB.out.trans (HK1.out.mono hbs)
      have b0 := (BX.cell (p := ⟨g', q' + i * 4, none⟩) lb).trans b0
      have b1 := (BX.cell (p := ⟨g', q' + i * 4 + 1, none⟩) lb).trans b1
      have b2 := (BX.cell (p := ⟨g', q' + i * 4 + 2, none⟩) lb).trans b2
      have b3 := (BX.cell (p := ⟨g', q' + i * 4 + 3, none⟩) lb).trans b3
      have Z2 := Own.new W1 64 #[.string ⟨#[]⟩, .slice none 0 0, .slice none 0 0, .int .i64 0]
      have K2 := Lib.hid (Below.of_row ((Below.refl W1.heap.size W1).alloc (Nat.le_refl _) (.cells #[.string ⟨#[]⟩, .slice none 0 0, .slice none 0 0, .int .i64 0] 64)) (g := W1.heap.size) (Nat.le_refl _) #[.string y.name, .slice loa2 y.locals.length loc2, .slice bda2 y.body.length bdc2, .int .i64 y.pos])
      have P2 := Lib.hid (Z2.row #[.string y.name, .slice loa2 y.locals.length loc2, .slice bda2 y.body.length bdc2, .int .i64 y.pos])
      clear BX
      go_upto_region 7 with (first | (refine st rowTh rfl rfl Z2 rfl rfl (by rfl) (by rfl) (by kernel_rfl) ?_))
      obtain ⟨W2, hW2⟩ : ∃ W, W = (W1.alloc (.cells #[.string ⟨#[]⟩, .slice none 0 0, .slice none 0 0, .int .i64 0] 64)).setRow W1.heap.size #[.string y.name, .slice loa2 y.locals.length loc2, .slice bda2 y.body.length bdc2, .int .i64 y.pos] := ⟨_, rfl⟩
      rw [← hW2] at P2 K2 ⊢
      clear hW2 Z2 b0 b1 b2 b3
      have o1 := P1.out.below K2.out
      have o2 := P2.out
      have BW : Hid (Below w.heap.size w W2) := (HB.out.trans (HK1.out.mono hbs)).trans (K2.out.mono (by have := HS1.out; omega))
      have HC : Hid (Calls Tryz.prog 41 #[.agg #[.string x.name, .slice loa1 x.locals.length loc1, .slice bda1 x.body.length bdc1, .int .i64 x.pos], .agg #[.string y.name, .slice loa2 y.locals.length loc2, .slice bda2 y.body.length bdc2, .int .i64 y.pos]] W2 fun e' w' => e' = .returned (.bool (f x y)) ∧ Below W2.heap.size W2 w') :=
       HX.out _ _ _ _ ⟨loa1, loc1, bda1, bdc1, rfl, dcsAt_below Hlo1.out BW.out, stsAt_below Hbd1.out BW.out⟩ ⟨loa2, loc2, bda2, bdc2, rfl, dcsAt_below Hlo2.out BW.out, stsAt_below Hbd2.out BW.out⟩
      generalize f x y = B at HST HC
      cases B with
      | false =>
        go_wp2_with (first | (refine ld rowTh rfl rfl rfl o1 rfl ?_) | (refine ld rowTh rfl rfl rfl o2 rfl ?_) | (go_at_call 41; refine (HC.out).mono ?_; rintro e w3 ⟨rfl, hb3⟩; have HB3 := Lib.hid hb3; clear hb3))
        go_ret
        refine ⟨by rw [HST.out]; rfl, BW.out.trans (HB3.out.mono (BW.out.size))⟩
      | true =>
        go_wp2_with (first | (refine ld rowTh rfl rfl rfl o1 rfl ?_) | (refine ld rowTh rfl rfl rfl o2 rfl ?_) | (go_at_call 41; refine (HC.out).mono ?_; rintro e w3 ⟨rfl, hb3⟩; have HB3 := Lib.hid hb3; clear hb3))
        go_roundg (n - (i + 1) + 1)
        case measure => have := HM.out; omega
        case rel => exact ⟨i + 1, rfl, by omega, by omega, by rw [HST.out]; simp, BW.out.trans (HB3.out.mono (BW.out.size))⟩
    · have : i = n := by omega
      subst this
      have hR : R = true := by rw [← HRI.out]; exact sameBy_end (by have := HN.out; omega) (by have := HLM.out; have := HN.out; omega)
      have HRT := Lib.hid hR
      clear hR
      go_wp2_with fail
      go_ret
      exact ⟨by rw [HRT.out]; rfl, HB.out⟩
 · rw [sameBy_ne hne]
   obtain ⟨n, hn⟩ : ∃ n, n = l.length := ⟨_, rfl⟩
   obtain ⟨k, hk⟩ : ∃ k, k = m.length := ⟨_, rfl⟩
   rw [← hn] at hne hl ⊢
   rw [← hk] at hne ⊢
   have hq : ((n : Int) == (k : Int)) = false := by simp; omega
   clear h1 h2 HI hn hk
   go_enter Tryz.func40, Tryz.ntmps40
   go_wp2_with fail
   go_ret
   exact ⟨rfl, Below.refl _ w⟩
end Go.Proofs.YtikaflpiephaiaaGreatDoor

/- The proof, part 25: texts that belong together, in one. -/
import Derived.Test.YtikaflpiephaiaaGreatDoorRAX
set_option maxRecDepth 100000
set_option maxHeartbeats 20000000
namespace Go.Proofs.YtikaflpiephaiaaGreatDoor
open Go.RowKit
set_option linter.unusedVariables false
def SameC (e : Ex) : Prop := okE e → ∀ (f : Ex) (v u : Value) (w : World), exA w e v → exA w f u → Calls Tryz.prog 16 #[v, u] w fun e' w' => e' = .returned (.bool (sameE e f)) ∧ Below w.heap.size w w'
theorem equal_ex {l : List Ex} (HI : ∀ x ∈ l, SameC x) (HO : okEs l) {m : List Ex} {a b : Option Addr} {c1 c2 : Nat} {w : World} (hl : l.length ≤ 9223372036854775807) (h1 : exsAt (fun _ => True) w l a) (h2 : exsAt (fun _ => True) w m b) :
 Calls Tryz.prog 44 #[.slice a l.length c1, .slice b m.length c2, .func (.func 16) #[] #[]] w fun e w' => e = .returned (.bool (sameEs l m)) ∧ Below w.heap.size w w' := by
 by_cases hne : l.length = m.length
 · obtain ⟨R, hR⟩ : ∃ R, R = sameEs l m := ⟨_, rfl⟩
   rw [← hR]
   have HRR := Lib.hid hR
   have HI := Lib.hid HI
   have HO := Lib.hid HO
   have HL := Lib.hid hl
   have HLM := Lib.hid hne
   have E1 := Lib.hid h1
   have E2 := Lib.hid h2
   rw [← hne]
   obtain ⟨n, hn⟩ : ∃ n, n = l.length := ⟨_, rfl⟩
   rw [← hn]
   have HN := Lib.hid hn
   have hn6 : n ≤ 9223372036854775807 := by omega
   clear hl hne h1 h2 hR hn
   go_enter Tryz.func44, Tryz.ntmps44
   go_wp2_with fail
   go_loopg [17] (n + 1) (fun m' u W => ∃ i : Nat, u = .int .i64 (i : Int) ∧ i ≤ n ∧ m' = n - i + 1 ∧ sameFrom l m i = R ∧ Below w.heap.size w W)
   case atStart => exact ⟨0, rfl, Nat.zero_le _, by omega, HRR.out.symm, Below.refl _ w⟩
   case round =>
    obtain ⟨i, rfl, hi, hm, hR, hb⟩ := hrel
    have HB := Lib.hid hb
    have HRI := Lib.hid hR
    have HM := Lib.hid hm
    clear hb hR hm
    by_cases hin : i < n
    · have HIN := Lib.hid hin
      have il : i < l.length := by have := HN.out; omega
      have im : i < m.length := by have := HLM.out; omega
      have g1 : l[i]? = some l[i] := List.getElem?_eq_getElem il
      have g2 : m[i]? = some m[i] := List.getElem?_eq_getElem im
      have hmem : l[i] ∈ l := List.getElem_mem il
      have hst := sameFrom_step il im
      generalize l[i] = x at g1 hst hmem
      generalize m[i] = y at g2 hst
      have HX := Lib.hid (HI.out x hmem (okEs_mem HO.out x hmem))
      rcases E1.out with e | ⟨g, q, rfl, _, e1⟩
      · cases l with
        | nil => simp at il
        | cons => cases e
      rcases E2.out with e | ⟨g', q', rfl, _, e2⟩
      · cases m with
        | nil => simp at im
        | cons => cases e
      have x1 := exsIn_get i x e1 g1
      have y1 := exsIn_get i y e2 g2
      have HST := Lib.hid (HRI.out.symm.trans hst)
      obtain ⟨k, o, wd, nm, ks, ps⟩ := x
      obtain ⟨k', o', wd', nm', ks', ps'⟩ := y
      obtain ⟨a0, a1, a2, a3, ⟨ka, kc, a4, hka⟩, a5⟩ := x1
      obtain ⟨b0, b1, b2, b3, ⟨kb, kd, b4, hkb⟩, b5⟩ := y1
      have HKA := Lib.hid hka
      have HKB := Lib.hid hkb
      have lg := lt_of_at a0
      have lg' := lt_of_at b0
      simp only at lg lg'
      have BX := HB.out
      have a0 := (BX.cell (p := ⟨g, q + i * 6, none⟩) lg).trans a0
      have a1 := (BX.cell (p := ⟨g, q + i * 6 + 1, none⟩) lg).trans a1
      have a2 := (BX.cell (p := ⟨g, q + i * 6 + 2, none⟩) lg).trans a2
      have a3 := (BX.cell (p := ⟨g, q + i * 6 + 3, none⟩) lg).trans a3
      have a4 := (BX.cell (p := ⟨g, q + i * 6 + 4, none⟩) lg).trans a4
      have a5 := (BX.cell (p := ⟨g, q + i * 6 + 5, none⟩) lg).trans a5
      have hbs := BX.size
      have BB := Lib.hid (And.intro b0 (And.intro b1 (And.intro b2 (And.intro b3 (And.intro b4 b5)))))
      clear hst hmem g1 g2 e1 e2 hka hkb b0 b1 b2 b3 b4 b5 il im
      have Z1 := Own.new wr 38 #[.int .u8 0, .int .u8 0, .int .i64 0, .string ⟨#[]⟩, .slice none 0 0, .int .i64 0]
      have K1 := Below.of_row ((Below.refl wr.heap.size wr).alloc (Nat.le_refl _) (.cells #[.int .u8 0, .int .u8 0, .int .i64 0, .string ⟨#[]⟩, .slice none 0 0, .int .i64 0] 38)) (g := wr.heap.size) (Nat.le_refl _) #[.int .u8 k, .int .u8 o, .int .i64 wd, .string nm, .slice ka ks.length kc, .int .i64 ps]
      have P1 := Lib.hid (Z1.row #[.int .u8 k, .int .u8 o, .int .i64 wd, .string nm, .slice ka ks.length kc, .int .i64 ps])
      have s1 := (size_setRow (wr.alloc (.cells #[.int .u8 0, .int .u8 0, .int .i64 0, .string ⟨#[]⟩, .slice none 0 0, .int .i64 0] 38)) wr.heap.size #[.int .u8 k, .int .u8 o, .int .i64 wd, .string nm, .slice ka ks.length kc, .int .i64 ps]).trans (World.size_alloc _ _)
      have HK1 := Lib.hid K1
      have HS1 := Lib.hid s1
      clear K1 s1
      go_upto_region 6 with (first | (refine st rowEx rfl rfl Z1 rfl rfl (by rfl) (by rfl) (by kernel_rfl) ?_))
      obtain ⟨W1, hW1⟩ : ∃ W, W = (wr.alloc (.cells #[.int .u8 0, .int .u8 0, .int .i64 0, .string ⟨#[]⟩, .slice none 0 0, .int .i64 0] 38)).setRow wr.heap.size #[.int .u8 k, .int .u8 o, .int .i64 wd, .string nm, .slice ka ks.length kc, .int .i64 ps] := ⟨_, rfl⟩
      rw [← hW1] at P1 HK1 HS1 ⊢
      clear hW1 Z1 a0 a1 a2 a3 a4 a5
      obtain ⟨b0, b1, b2, b3, b4, b5⟩ := BB.out
      have BX := HB.out.trans (HK1.out.mono hbs)
      have b0 := (BX.cell (p := ⟨g', q' + i * 6, none⟩) lg').trans b0
      have b1 := (BX.cell (p := ⟨g', q' + i * 6 + 1, none⟩) lg').trans b1
      have b2 := (BX.cell (p := ⟨g', q' + i * 6 + 2, none⟩) lg').trans b2
      have b3 := (BX.cell (p := ⟨g', q' + i * 6 + 3, none⟩) lg').trans b3
      have b4 := (BX.cell (p := ⟨g', q' + i * 6 + 4, none⟩) lg').trans b4
      have b5 := (BX.cell (p := ⟨g', q' + i * 6 + 5, none⟩) lg').trans b5
      have Z2 := Own.new W1 38 #[.int .u8 0, .int .u8 0, .int .i64 0, .string ⟨#[]⟩, .slice none 0 0, .int .i64 0]
      have K2 := Lib.hid (Below.of_row ((Below.refl W1.heap.size W1).alloc (Nat.le_refl _) (.cells #[.int .u8 0, .int .u8 0, .int .i64 0, .string ⟨#[]⟩, .slice none 0 0, .int .i64 0] 38)) (g := W1.heap.size) (Nat.le_refl _) #[.int .u8 k', .int .u8 o', .int .i64 wd', .string nm', .slice kb ks'.length kd, .int .i64 ps'])
      have P2 := Lib.hid (Z2.row #[.int .u8 k', .int .u8 o', .int .i64 wd', .string nm', .slice kb ks'.length kd, .int .i64 ps'])
      clear BX
      go_upto_region 7 with (first | (refine st rowEx rfl rfl Z2 rfl rfl (by rfl) (by rfl) (by kernel_rfl) ?_))
      obtain ⟨W2, hW2⟩ : ∃ W, W = (W1.alloc (.cells #[.int .u8 0, .int .u8 0, .int .i64 0, .string ⟨#[]⟩, .slice none 0 0, .int .i64 0] 38)).setRow W1.heap.size #[.int .u8 k', .int .u8 o', .int .i64 wd', .string nm', .slice kb ks'.length kd, .int .i64 ps'] := ⟨_, rfl⟩
      rw [← hW2] at P2 K2 ⊢
      clear hW2 Z2 b0 b1 b2 b3 b4 b5
      have o1 := P1.out.below K2.out
      have o2 := P2.out
      have BW : Hid (Below w.heap.size w W2) := (HB.out.trans (HK1.out.mono hbs)).trans (K2.out.mono (by have := HS1.out; omega))
      have HC : Hid (Calls Tryz.prog 16 #[.agg #[.int .u8 k, .int .u8 o, .int .i64 wd, .string nm, .slice ka ks.length kc, .int .i64 ps], .agg #[.int .u8 k', .int .u8 o', .int .i64 wd', .string nm', .slice kb ks'.length kd, .int .i64 ps']] W2 fun e' w' => e' = .returned (.bool (sameE (.mk k o wd nm ks ps) (.mk k' o' wd' nm' ks' ps'))) ∧ Below W2.heap.size W2 w') :=
       HX.out _ _ _ _ ⟨ka, kc, rfl, exsAt_below HKA.out BW.out⟩ ⟨kb, kd, rfl, exsAt_below HKB.out BW.out⟩
      generalize sameE (.mk k o wd nm ks ps) (.mk k' o' wd' nm' ks' ps') = B at HST HC
      cases B with
      | false =>
        go_wp2_with (first | (refine ld rowEx rfl rfl rfl o1 rfl ?_) | (refine ld rowEx rfl rfl rfl o2 rfl ?_) | (go_at_call 16; refine (HC.out).mono ?_; rintro e w3 ⟨rfl, hb3⟩; have HB3 := Lib.hid hb3; clear hb3))
        go_ret
        refine ⟨by rw [HST.out]; rfl, BW.out.trans (HB3.out.mono (BW.out.size))⟩
      | true =>
        go_wp2_with (first | (refine ld rowEx rfl rfl rfl o1 rfl ?_) | (refine ld rowEx rfl rfl rfl o2 rfl ?_) | (go_at_call 16; refine (HC.out).mono ?_; rintro e w3 ⟨rfl, hb3⟩; have HB3 := Lib.hid hb3; clear hb3))
        go_roundg (n - (i + 1) + 1)
        case measure => have := HM.out; omega
        case rel => exact ⟨i + 1, rfl, by omega, by omega, by rw [HST.out]; simp, BW.out.trans (HB3.out.mono (BW.out.size))⟩
    · have : i = n := by omega
      subst this
      have hR : R = true := by rw [← HRI.out]; exact sameFrom_end (by have := HN.out; omega) (by have := HLM.out; have := HN.out; omega)
      have HRT := Lib.hid hR
      clear hR
      go_wp2_with fail
      go_ret
      exact ⟨by rw [HRT.out]; rfl, HB.out⟩
 · rw [sameEs_ne hne]
   obtain ⟨n, hn⟩ : ∃ n, n = l.length := ⟨_, rfl⟩
   obtain ⟨k, hk⟩ : ∃ k, k = m.length := ⟨_, rfl⟩
   rw [← hn] at hne hl ⊢
   rw [← hk] at hne ⊢
   have hq : ((n : Int) == (k : Int)) = false := by simp; omega
   clear h1 h2 HI HO hn hk
   go_enter Tryz.func44, Tryz.ntmps44
   go_wp2_with fail
   go_ret
   exact ⟨rfl, Below.refl _ w⟩
theorem same_no0 {k o wd ps k' o' wd' ps' : Int} {nm nm' : ByteArray} {n n' kc kd : Nat} {ka kb : Option Addr} (w : World) (qk : (k == k') = false) :
 Calls Tryz.prog 16 #[.agg #[.int .u8 k, .int .u8 o, .int .i64 wd, .string nm, .slice ka n kc, .int .i64 ps], .agg #[.int .u8 k', .int .u8 o', .int .i64 wd', .string nm', .slice kb n' kd, .int .i64 ps']] w fun e' w' => e' = .returned (.bool false) ∧ Below w.heap.size w w' := by
 go_enter Tryz.func16, Tryz.ntmps16
 go_wp2_with fail
 go_ret
 exact ⟨rfl, (((Below.refl _ w).alloc (Nat.le_refl _) _).alloc (by rw [World.size_alloc]; omega) _)⟩
theorem same_no1 {k o wd ps k' o' wd' ps' : Int} {nm nm' : ByteArray} {n n' kc kd : Nat} {ka kb : Option Addr} (w : World) (qk : (k == k') = true) (qo : (o == o') = false) :
 Calls Tryz.prog 16 #[.agg #[.int .u8 k, .int .u8 o, .int .i64 wd, .string nm, .slice ka n kc, .int .i64 ps], .agg #[.int .u8 k', .int .u8 o', .int .i64 wd', .string nm', .slice kb n' kd, .int .i64 ps']] w fun e' w' => e' = .returned (.bool false) ∧ Below w.heap.size w w' := by
 go_enter Tryz.func16, Tryz.ntmps16
 go_wp2_with fail
 go_ret
 exact ⟨rfl, (((Below.refl _ w).alloc (Nat.le_refl _) _).alloc (by rw [World.size_alloc]; omega) _)⟩
theorem same_no2 {k o wd ps k' o' wd' ps' : Int} {nm nm' : ByteArray} {n n' kc kd : Nat} {ka kb : Option Addr} (w : World) (qk : (k == k') = true) (qo : (o == o') = true) (qw : (wd == wd') = false) :
 Calls Tryz.prog 16 #[.agg #[.int .u8 k, .int .u8 o, .int .i64 wd, .string nm, .slice ka n kc, .int .i64 ps], .agg #[.int .u8 k', .int .u8 o', .int .i64 wd', .string nm', .slice kb n' kd, .int .i64 ps']] w fun e' w' => e' = .returned (.bool false) ∧ Below w.heap.size w w' := by
 go_enter Tryz.func16, Tryz.ntmps16
 go_wp2_with fail
 go_ret
 exact ⟨rfl, (((Below.refl _ w).alloc (Nat.le_refl _) _).alloc (by rw [World.size_alloc]; omega) _)⟩
theorem same_no3 {k o wd ps k' o' wd' ps' : Int} {nm nm' : ByteArray} {n n' kc kd : Nat} {ka kb : Option Addr} (w : World) (qk : (k == k') = true) (qo : (o == o') = true) (qw : (wd == wd') = true) (qn : (nm.toList == nm'.toList) = false) :
 Calls Tryz.prog 16 #[.agg #[.int .u8 k, .int .u8 o, .int .i64 wd, .string nm, .slice ka n kc, .int .i64 ps], .agg #[.int .u8 k', .int .u8 o', .int .i64 wd', .string nm', .slice kb n' kd, .int .i64 ps']] w fun e' w' => e' = .returned (.bool false) ∧ Below w.heap.size w w' := by
 go_enter Tryz.func16, Tryz.ntmps16
 go_wp2_with fail
 go_ret
 exact ⟨rfl, (((Below.refl _ w).alloc (Nat.le_refl _) _).alloc (by rw [World.size_alloc]; omega) _)⟩
theorem same_yes {k o wd ps k' o' wd' ps' : Int} {nm nm' : ByteArray} {n n' kc kd : Nat} {ka kb : Option Addr} (w : World) (qk : (k == k') = true) (qo : (o == o') = true) (qw : (wd == wd') = true) (qn : (nm.toList == nm'.toList) = true) {B : Bool} (HC : ∀ W, Below w.heap.size w W → Calls Tryz.prog 44 #[.slice ka n kc, .slice kb n' kd, .func (.func 16) #[] #[]] W fun e w' => e = .returned (.bool B) ∧ Below W.heap.size W w') :
 Calls Tryz.prog 16 #[.agg #[.int .u8 k, .int .u8 o, .int .i64 wd, .string nm, .slice ka n kc, .int .i64 ps], .agg #[.int .u8 k', .int .u8 o', .int .i64 wd', .string nm', .slice kb n' kd, .int .i64 ps']] w fun e' w' => e' = .returned (.bool B) ∧ Below w.heap.size w w' := by
 have HC := Lib.hid HC
 have HB : Hid (Below w.heap.size w ((w.alloc (.cells #[.int .u8 k, .int .u8 o, .int .i64 wd, .string nm, .slice ka n kc, .int .i64 ps] 38)).alloc (.cells #[.int .u8 k', .int .u8 o', .int .i64 wd', .string nm', .slice kb n' kd, .int .i64 ps'] 38))) := (((Below.refl _ w).alloc (Nat.le_refl _) _).alloc (by rw [World.size_alloc]; omega) _)
 go_enter Tryz.func16, Tryz.ntmps16
 go_wp2_with (go_at_call 44; refine (HC.out _ HB.out).mono ?_; rintro e w3 ⟨rfl, hb3⟩; have HB3 := Lib.hid hb3; clear hb3)
 go_ret
 exact ⟨rfl, HB.out.trans (HB3.out.mono HB.out.size)⟩
theorem p_same : ∀ e, SameC e := by
 intro e
 induction e using Ex.ind with
 | h k o wd nm ks ps ih =>
   intro hok f v u w hv hu
   obtain ⟨k', o', wd', nm', ks', ps'⟩ := f
   obtain ⟨ka, kc, rfl, hka⟩ := hv
   obtain ⟨kb, kd, rfl, hkb⟩ := hu
   simp only [Ex.kind, Ex.op, Ex.wd, Ex.name, Ex.kids, Ex.pos]
   have e0 : sameE (.mk k o wd nm ks ps) (.mk k' o' wd' nm' ks' ps') = (k == k' && o == o' && wd == wd' && nm.data.toList == nm'.data.toList && sameEs ks ks') := by simp only [sameE]
   rw [e0]
   by_cases h1 : k = k'
   · by_cases h2 : o = o'
     · by_cases h3 : wd = wd'
       · by_cases h4 : nm.data.toList = nm'.data.toList
         · rw [show (k == k' && o == o' && wd == wd' && nm.data.toList == nm'.data.toList && sameEs ks ks') = sameEs ks ks' by simp [h1, h2, h3, h4]]
           exact same_yes w (by simpa using h1) (by simpa using h2) (by simpa using h3) (by rw [Lib.toList_data, Lib.toList_data]; simpa using h4) fun W hb => equal_ex ih hok.2 hok.1 (exsAt_below hka hb) (exsAt_below hkb hb)
         · rw [show (k == k' && o == o' && wd == wd' && nm.data.toList == nm'.data.toList && sameEs ks ks') = false by rw [beq_eq_false_iff_ne.2 h4]; simp]
           exact same_no3 w (by simpa using h1) (by simpa using h2) (by simpa using h3) (by rw [Lib.toList_data, Lib.toList_data]; simpa using h4)
       · rw [show (k == k' && o == o' && wd == wd' && nm.data.toList == nm'.data.toList && sameEs ks ks') = false by simp [h3]]
         exact same_no2 w (by simpa using h1) (by simpa using h2) (by simpa using h3)
     · rw [show (k == k' && o == o' && wd == wd' && nm.data.toList == nm'.data.toList && sameEs ks ks') = false by simp [h2]]
       exact same_no1 w (by simpa using h1) (by simpa using h2)
   · rw [show (k == k' && o == o' && wd == wd' && nm.data.toList == nm'.data.toList && sameEs ks ks') = false by simp [h1]]
     exact same_no0 w (by simpa using h1)
end Go.Proofs.YtikaflpiephaiaaGreatDoor

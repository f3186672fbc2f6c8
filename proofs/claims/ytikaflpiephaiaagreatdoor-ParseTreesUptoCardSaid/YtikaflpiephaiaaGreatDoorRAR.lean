/- The proof, part 18: texts that belong together, in one. -/
import Derived.Test.YtikaflpiephaiaaGreatDoorRAQ
set_option maxRecDepth 100000
set_option maxHeartbeats 20000000
namespace Go.Proofs.YtikaflpiephaiaaGreatDoor
open Go.RowKit
set_option linter.unusedVariables false
def thR (n : Nat) (t : Th) (v : Value) (W : World) : Prop := ∃ a1 c1 a2 c2, v = .agg #[.string t.name, .slice a1 t.locals.length c1, .slice a2 t.body.length c2, .int .i64 t.pos] ∧ dcsAt (fun b => n ≤ b) W t.locals a1 ∧ stsAt (fun b => n ≤ b) W t.body a2
structure ThI (c : Par) (w0 : World) (tb : Nat) (nm : ByteArray) (p : Int) (vL : Value) (l : List Dc) (W : World) (k : Nat) : Prop where
 run : At c w0 W k
 ge : w0.heap.size < tb
 res : Own W w0.heap.size 64 zTh
 own : Own W tb 64 #[.string nm, vL, .slice none 0 0, .int .i64 p]
 row : W.ownsRow w0.heap.size 66 3 vL l.length (dcsL l)
section
variable {c : Par} {w0 W W' : World} {tb : Nat} {nm : ByteArray} {p : Int} {vL : Value} {l : List Dc} {k k2 : Nat}
theorem ThI.call (h : ThI c w0 tb nm p vL l W k) (hf : Fr c W W') (hp : Rd c W' k2) (hX : c.X < w0.heap.size) : ThI c w0 tb nm p vL l W' k2 :=
 ⟨h.run.call hf hp, h.ge, h.res.fr hf (by omega), h.own.fr hf (by have := h.ge; omega), row_fr h.row hf hX⟩
theorem ThI.cell (h : ThI c w0 tb nm p vL l W k) {i : Nat} {v : Value} (hv : (#[.string nm, vL, .slice none 0 0, .int .i64 p] : Array Value)[i]? = some v) : W.cell? ⟨tb, i, none⟩ = some v := by rw [cell_of_row W _ i _ _ _ h.own]; exact hv
theorem ThI.drew (h : ThI c w0 tb nm p vL l W k) : ThI c w0 tb nm p vL l W.drew k := ⟨h.run.drew, h.ge, h.res, h.own, h.row⟩
theorem ThI.grown (h : ThI c w0 tb nm p vL l W k) (hg : W.grownBy W' vL.ownBlock) (hX : c.X < w0.heap.size) : At c w0 W' k ∧ Own W' w0.heap.size 64 zTh ∧ Own W' tb 64 #[.string nm, vL, .slice none 0 0, .int .i64 p] :=
 ⟨grown_fr h.run hg (fun r hr => by have := (h.row.lt r hr).1; exact ⟨this, by omega⟩), own_grown h.res hg (row_apart h.row h.res rfl), own_grown h.own hg (row_apart h.row h.own rfl)⟩
theorem ThI.end_ (h : ThI c w0 tb nm p vL l W k) {g cap : Nat} {d : List Dc} (hX : c.X < w0.heap.size) (hg : W.grownBy W' vL.ownBlock) (hown : W'.ownsRow w0.heap.size 66 3 (.slice (some ⟨g, 0, none⟩) (l.length + d.length) cap) (l.length + d.length) (dcsL l ++ dcsL d)) :
 ThI c w0 tb nm p (.slice (some ⟨g, 0, none⟩) (l.length + d.length) cap) (l ++ d) (W'.setRow tb #[.string nm, .slice (some ⟨g, 0, none⟩) (l.length + d.length) cap, .slice none 0 0, .int .i64 p]) k := by
 obtain ⟨h1, h2, h3⟩ := h.grown hg hX
 have ha := row_apart hown h3 rfl
 refine ⟨h1.setRow (by have := h.ge; omega) (by have := h.ge; omega) _, h.ge, h2.other _ (by have := h.ge; omega), h3.row _, ?_⟩
 have := row_row hown #[.string nm, .slice (some ⟨g, 0, none⟩) (l.length + d.length) cap, .slice none 0 0, .int .i64 p] ha
 simp only [List.length_append, dcsL, List.flatMap_append] at this ⊢
 exact this
end
theorem list_both {L : Int} {one : List Tk → PR Dc} (ho : ∀ ts d r, one ts = .ok d r → r.length < ts.length) : ∀ {n : Nat} {acc : List Dc} {ts : List Tk} {l : List Dc} {r : List Tk}, listP L one n acc ts = .ok l r → l.length + r.length ≤ acc.length + ts.length
 | 0, acc, ts, l, r, h => by simp [listP] at h
 | n + 1, acc, ts, l, r, h => by
   simp only [listP] at h
   obtain ⟨a, b, h1, h2⟩ := PR.then_eq_ok h
   have k := ho _ _ _ h1
   split at h2
   · have := list_both ho h2
     rw [List.length_append, List.length_tail] at this
     simp at this
     omega
   · obtain ⟨u, c, h3, h4⟩ := PR.then_eq_ok h2
     cases h4
     have := (need_ok h3).2.2
     rw [List.length_append]
     simp
     omega
def LocI (c : Par) (w : World) (tb : Nat) (nm : ByteArray) (p : Int) (Y : PR (List Dc)) (m : Nat) (W : World) : Prop :=
 ∃ (j : Nat) (l : List Dc) (vL : Value), ThI c w tb nm p vL l W j ∧ localsP c.L m l (c.at j) = Y ∧ (c.at j).length < m ∧ l.length + (c.at j).length ≤ 65536
theorem p_thread {c : Par} {w : World} {k n : Nat} (R : Rd c w k) (hn : 3 * (c.at k).length + 2 ≤ n) :
 Calls Tryz.prog 67 #[c.ptr] w (RdPost c w (threadP fnd c.L n (c.at k)) (fun t v w' => thR w.heap.size t v w')) := by
 obtain ⟨Y, hY⟩ : ∃ Y, Y = threadP fnd c.L n (c.at k) := ⟨_, rfl⟩
 obtain ⟨Y1, hY1⟩ : ∃ Y1, Y1 = nameP c.L (c.at k) := ⟨_, rfl⟩
 have HS : Hid (Y = Y1.then fun d r => (openP c.L 1 r).then fun _ r => (localsP c.L n [] r).then fun l r => (restP fnd c.L n 1 [] r).then fun b r => .ok ⟨d.name, l, b, d.pos⟩ r) := by rw [Hid, hY, hY1]; rfl
 have HC1 : Hid (∀ W, Rd c W k → Calls Tryz.prog 114 #[c.ptr] W (RdPost c W Y1 (fun d v _ => v = dcVal d))) := fun W RW => by rw [hY1]; exact p_name RW
 have HL1 : Hid (∀ d r, Y1 = .ok d r → r.length < (c.at k).length) := fun d r h => nameP_short (hY1.symm.trans h)
 have hl0 : (c.at k).length ≤ 65536 := by rw [Par.at_len]; have := R.s.small.1; omega
 rw [← hY]
 have HP : Hid (∀ W j (s : ByteArray), Rd c W j → s.data.toList ≠ [] → Calls Tryz.prog 66 #[c.ptr, .string s] W fun e w' => e = .returned (.bool (isT s.data.toList (c.at j))) ∧ Fr c W w' ∧ Rd c w' (if isT s.data.toList (c.at j) = true then j + 1 else j)) := fun W j s RW hs => p_pass RW s hs
 have HO : Hid (∀ W j, Rd c W j → Calls Tryz.prog 115 #[c.ptr, .int .i64 1] W (RdPost c W (openP c.L 1 (c.at j)) (fun _ v _ => v = .tuple #[]))) := fun W j RW => p_open RW 1
 have HRS : Hid (∀ W j, Rd c W j → 3 * (c.at j).length + 2 ≤ n → Calls Tryz.prog 117 #[c.ptr, .int .i64 1] W (RdPost c W (restP fnd c.L n 1 [] (c.at j)) (fun l v w' => stsVal W.heap.size l v w'))) := fun W j RW hf => p_rest (fun m _ => stmt_all m) RW (by decide) (by decide) hf
 have A0 := Lib.hid ((At.start R).alloc (.cells zTh 64))
 have O0 := Own.new w 64 zTh
 have HR := Lib.hid R
 have hX := Lib.hid R.lt
 have HM := Lib.hid (And.intro hn hl0)
 clear hY hY1 R hn hl0
 unfold Par.ptr dcVal zTh at *
 go_enter Tryz.func67, Tryz.ntmps67
 go_wp2_with fail
 go_at_call 114
 refine (HC1.out _ (A0.out.rd HR.out)).mono ?_
 rintro e w1 ⟨hf1, hm1⟩
 rcases Y1 with ⟨d1, r1⟩ | ⟨p, q⟩
 rotate_left
 · obtain rfl := hm1
   have AZ := Lib.hid (A0.out.fr.trans hf1)
   clear hf1
   go_wp2_with fail
   refine ⟨rfl, ?_⟩
   rw [HS.out]
   exact ⟨AZ.out, rfl⟩
 obtain ⟨v1, k1, rfl, rfl, hR1, rfl⟩ := hm1
 obtain ⟨nm, dw, dp⟩ := d1
 have HS : Hid (Y = (openP c.L 1 (c.at k1)).then fun _ r => (localsP c.L n [] r).then fun l r => (restP fnd c.L n 1 [] r).then fun b r => .ok ⟨nm, l, b, dp⟩ r) := HS.out
 have hlen1 := HL1.out _ _ rfl
 have G : Hid (ThI c w (w1.heap.size + 1) nm dp (.slice none 0 0) [] ((w1.alloc (.cells #[.string nm, .int .i64 dw, .int .i64 dp] 66)).alloc (.cells #[.string nm, .slice none 0 0, .slice none 0 0, .int .i64 dp] 64)) k1) := by
  have hz := (O0.fr hf1 (by have := hX.out; omega)).lt
  have o2 := Own.new (w1.alloc (.cells #[.string nm, .int .i64 dw, .int .i64 dp] 66)) 64 #[.string nm, .slice none 0 0, .slice none 0 0, .int .i64 dp]
  rw [World.size_alloc] at o2
  exact ⟨((A0.out.call hf1 hR1).alloc _).alloc _, by omega, ((O0.fr hf1 (by have := hX.out; omega)).alloc _).alloc _, o2, World.ownsRow_nil _ _ _ _⟩
 have HLEN := Lib.hid hlen1
 clear hf1 hR1 hlen1 O0 A0
 go_wp2_with fail
 obtain ⟨W, hW⟩ : ∃ W, W = ((w1.alloc (.cells #[.string nm, .int .i64 dw, .int .i64 dp] 66)).alloc (.cells #[.string nm, .slice none 0 0, .slice none 0 0, .int .i64 dp] 64)) := ⟨_, rfl⟩
 rw [← hW] at G ⊢
 clear hW
 obtain ⟨TB, hTB⟩ : ∃ TB, TB = w1.heap.size + 1 := ⟨_, rfl⟩
 rw [← hTB] at G ⊢
 have HDB : Hid (w1.heap.size + 1 = TB) := hTB.symm
 obtain ⟨DB, hDB⟩ : ∃ DB, DB = w1.heap.size := ⟨_, rfl⟩
 rw [← hDB]
 clear hTB hDB
 obtain ⟨Z2, hZ2⟩ : ∃ Z2, Z2 = openP c.L 1 (c.at k1) := ⟨_, rfl⟩
 have HC2 : Hid (∀ W, Rd c W k1 → Calls Tryz.prog 115 #[.pointer (some ⟨c.X, 0, none⟩), .int .i64 1] W (RdPost c W Z2 (fun _ v _ => v = .tuple #[]))) := fun W RW => by rw [hZ2]; exact HO.out W k1 RW
 have HL2 : Hid (∀ u r, Z2 = .ok u r → r.length < (c.at k1).length) := fun u r h => by have := open_short (hZ2.symm.trans h); omega
 have HS : Hid (Y = Z2.then fun _ r => (localsP c.L n [] r).then fun l r => (restP fnd c.L n 1 [] r).then fun b r => .ok ⟨nm, l, b, dp⟩ r) := by rw [Hid, HS.out, hZ2]
 clear hZ2
 go_at_call 115
 refine (HC2.out _ (G.out.run.rd HR.out)).mono ?_
 rintro e w2 ⟨hf2, hm2⟩
 rcases Z2 with ⟨u2, r2⟩ | ⟨p, q⟩
 rotate_left
 · obtain rfl := hm2
   have AZ := Lib.hid (G.out.run.fr.trans hf2)
   clear hf2
   go_wp2_with fail
   refine ⟨rfl, ?_⟩
   rw [HS.out]
   exact ⟨AZ.out, rfl⟩
 obtain ⟨v2, k2, rfl, rfl, hR2, rfl⟩ := hm2
 have HL2 := Lib.hid (HL2.out _ _ rfl)
 have G := Lib.hid (G.out.call hf2 hR2 hX.out)
 obtain ⟨Z3, hZ3⟩ : ∃ Z3, Z3 = localsP c.L n [] (c.at k2) := ⟨_, rfl⟩
 have HS : Hid (Y = Z3.then fun l r => (restP fnd c.L n 1 [] r).then fun b r => .ok ⟨nm, l, b, dp⟩ r) := by rw [Hid, HS.out, hZ3]; rfl
 have HSH : Hid (∀ l r, Z3 = .ok l r → r.length ≤ (c.at k2).length) := fun l r h => locals_short _ _ _ _ _ (hZ3.symm.trans h)
 have B0 : Hid (LocI c w TB nm dp Z3 n w2) := ⟨k2, [], _, G.out, hZ3.symm, by have := HM.out; have := HLEN.out; have := HL2.out; omega, by have := HM.out; have := HLEN.out; have := HL2.out; simp; omega⟩
 clear hf2 hR2 hZ3 G
 go_wp2_with fail
 go_loopg [] n (fun m W => LocI c w TB nm dp Z3 m W ∧ m ≤ n)
 case atStart => exact ⟨B0.out, Nat.le_refl _⟩
 case round =>
  obtain ⟨⟨j, l, vL, G1, hY1, hfu, hle⟩, hgn⟩ := hrel
  have G := Lib.hid G1
  have HFU := Lib.hid (And.intro hfu hle)
  have HGN := Lib.hid hgn
  have HY1 := Lib.hid hY1
  clear G1 hY1 hfu hle hgn
  obtain ⟨m, rfl⟩ : ∃ m, gk = m + 1 := ⟨gk - 1, by have := HFU.out.1; omega⟩
  obtain ⟨B, hB⟩ : ∃ b, b = isT [108, 111, 99, 97, 108] (c.at j) := ⟨_, rfl⟩
  have HCB : Hid (∀ W, Rd c W j → Calls Tryz.prog 66 #[.pointer (some ⟨c.X, 0, none⟩), .string ⟨#[108, 111, 99, 97, 108]⟩] W fun e w' => e = .returned (.bool B) ∧ Fr c W w' ∧ Rd c w' (if B = true then j + 1 else j)) := fun W RW => by rw [hB]; exact HP.out W j ⟨#[108, 111, 99, 97, 108]⟩ RW (by decide)
  cases B with
  | false =>
    have hz3 : Z3 = .ok l (c.at j) := by rw [← HY1.out]; unfold localsP; rw [← hB]; rfl
    have HZ := Lib.hid hz3
    clear hz3 hB
    go_wp2_with fail
    go_at_call 66
    refine (HCB.out _ (G.out.run.rd HR.out)).mono ?_
    rintro e w3 ⟨rfl, hf3, hR3⟩
    have G := Lib.hid (G.out.call hf3 (show Rd c w3 j from hR3) hX.out)
    clear hf3 hR3
    go_wp2_with fail
    have HK := Lib.hid (HSH.out _ _ HZ.out)
    obtain ⟨Z4, hZ4⟩ : ∃ Z4, Z4 = restP fnd c.L n 1 [] (c.at j) := ⟨_, rfl⟩
    have HC4 : Hid (∀ W, Rd c W j → Calls Tryz.prog 117 #[.pointer (some ⟨c.X, 0, none⟩), .int .i64 1] W (RdPost c W Z4 (fun l v w' => stsVal W.heap.size l v w'))) := fun W RW => by rw [hZ4]; exact HRS.out W j RW (by have := HM.out.1; have := HLEN.out; have := HL2.out; have := HK.out; omega)
    have HS : Hid (Y = Z4.then fun b r => .ok ⟨nm, l, b, dp⟩ r) := by rw [Hid, HS.out, HZ.out, hZ4]; rfl
    clear hZ4
    go_at_call 117
    refine (HC4.out _ (G.out.run.rd HR.out)).mono ?_
    rintro e w4 ⟨hf4, hm4⟩
    rcases Z4 with ⟨l4, r4⟩ | ⟨p, q⟩
    rotate_left
    · obtain rfl := hm4
      have AZ := Lib.hid (G.out.run.fr.trans hf4)
      clear hf4
      go_wp2_with fail
      refine ⟨rfl, ?_⟩
      show RdPost c w Y _ _ _
      rw [HS.out]
      exact ⟨AZ.out, rfl⟩
    obtain ⟨v4, k4, rfl, ⟨a4, cap4, rfl, hV4⟩, hR4, rfl⟩ := hm4
    have hlt3 := G.out.own.lt
    have hge := Lib.hid G.out.ge
    have V4 := Lib.hid (stsAt_mono (R' := fun b => w.heap.size ≤ b ∧ b ≠ TB ∧ b ≠ w.heap.size) hV4 (fun b hb => by have := hge.out; change _ ≤ _ at hb; omega))
    have G := Lib.hid (G.out.call hf4 hR4 hX.out)
    clear hf4 hR4 hV4 hlt3
    obtain ⟨oa, cap, rfl, hoa⟩ := row_shape G.out.row
    have HOA := Lib.hid hoa
    clear hoa
    have E5 : w4.setCell ⟨TB, 2, none⟩ (.slice a4 l4.length cap4) = w4.setRow TB #[.string nm, .slice oa l.length cap, .slice a4 l4.length cap4, .int .i64 dp] := setCell_row G.out.own 2 _
    have c4 := G.out.cell (i := 2) (v := .slice none 0 0) rfl
    have z4 := own_frozen G.out.own 2
    have hne : w.heap.size ≠ TB := by have := hge.out; omega
    have hnX : c.X ≠ TB := by have := hge.out; have := hX.out; omega
    have hnX0 : c.X ≠ w.heap.size := by have := hX.out; omega
    have OR := G.out.res.other (g := TB) #[.string nm, .slice oa l.length cap, .slice a4 l4.length cap4, .int .i64 dp] hne
    have OS := G.out.own.row #[.string nm, .slice oa l.length cap, .slice a4 l4.length cap4, .int .i64 dp]
    have ROW := Lib.hid (row_row G.out.row #[.string nm, .slice oa l.length cap, .slice a4 l4.length cap4, .int .i64 dp] (row_apart G.out.row G.out.own rfl))
    have RA := Lib.hid (row_apart G.out.row G.out.res rfl)
    have V5 := Lib.hid (stsAt_stays (stays_row w4 (g := TB) #[.string nm, .slice oa l.length cap, .slice a4 l4.length cap4, .int .i64 dp] (fun b hb => hb.2.1)) (fun b hb => hb) V4.out)
    have A5 := Lib.hid (G.out.run.setRow (g := TB) (by have := hge.out; omega) hnX #[.string nm, .slice oa l.length cap, .slice a4 l4.length cap4, .int .i64 dp])
    have hne := Lib.hid hne
    have hnX := Lib.hid hnX
    have hnX0 := Lib.hid hnX0
    unfold zTh at OR
    go_wp2_with (first | (refine ld rowTh rfl rfl rfl OS rfl ?_) | (refine st rowTh rfl rfl OR rfl rfl (by rfl) (by rfl) (by kernel_rfl) ?_))
    clear E5 c4 z4
    have A6 := A5.out.setRow (Nat.le_refl _) hnX0.out #[.string nm, .slice oa l.length cap, .slice a4 l4.length cap4, .int .i64 dp]
    refine p_ret rowTh rfl (OR.row #[.string nm, .slice oa l.length cap, .slice a4 l4.length cap4, .int .i64 dp]) rfl rfl rfl ?_
    show RdPost c w Y _ _ _
    rw [HS.out]
    refine ⟨A6.fr, _, k4, rfl, ⟨oa, cap, a4, cap4, rfl, ?_, stsAt_stays (stays_row _ (g := w.heap.size) _ (fun b hb => hb.2.2)) (fun b hb => hb.1) V5.out⟩, A6.rd HR.out, rfl⟩
    have ROW6 := row_row ROW.out (g := w.heap.size) #[.string nm, .slice oa l.length cap, .slice a4 l4.length cap4, .int .i64 dp] RA.out
    cases l with
    | nil => exact .inl rfl
    | cons x xx =>
      obtain ⟨g, rfl, hg⟩ := HOA.out (by simp)
      exact .inr ⟨g, 0, rfl, hg, dcsIn_of (row_cells ROW6 rfl)⟩
  | true =>
    obtain ⟨Z4, hZ4⟩ : ∃ Z4, Z4 = listP c.L (nameP c.L) m [] (c.at (j + 1)) := ⟨_, rfl⟩
    have hjl := Par.isT_lt hB.symm
    have hat := at_step hjl
    have HC4 : Hid (∀ W, Rd c W (j + 1) → Calls Tryz.prog 116 #[.pointer (some ⟨c.X, 0, none⟩), .func (.func 114) #[.pointer (some ⟨c.X, 0, none⟩)] #[]] W (RdPost c W Z4 (fun l v w' => w'.ownsRow W.heap.size 66 3 v l.length (dcsL l) ∧ l ≠ []))) := fun W RW => by rw [hZ4]; exact p_list_name RW (by have := HFU.out.1; omega)
    have HN4 : Hid (∀ d r, Z4 = .ok d r → d.length ≤ (c.at (j + 1)).length ∧ d.length + r.length ≤ (c.at (j + 1)).length) := fun d r h => by have := list_both (fun _ _ _ => nameP_short) (hZ4.symm.trans h); simp at this; omega
    have hz3 : Z3 = Z4.then fun d r => localsP c.L m (l ++ d) r := by
     rw [← HY1.out]; conv => lhs; unfold localsP
     rw [← hB, hZ4, Par.at_tail]; rfl
    have HZ := Lib.hid hz3
    have HAT := Lib.hid hat
    clear hz3 hB hZ4 hjl hat
    go_wp2_with fail
    go_at_call 66
    refine (HCB.out _ (G.out.run.rd HR.out)).mono ?_
    rintro e w3 ⟨rfl, hf3, hR3⟩
    have G := Lib.hid (G.out.call hf3 (show Rd c w3 (j + 1) from hR3) hX.out)
    clear hf3 hR3
    go_wp2_with fail
    refine wp_region_held (S := fun _ => True) (by kernel_rfl) ?_
    have G := G.out.drew
    change wpAnyH _ _ _ _ _ _ _ _ w3.drew
    obtain ⟨W0, hW0⟩ : ∃ W0, W0 = w3.drew := ⟨_, rfl⟩
    rw [← hW0] at G ⊢
    clear hW0
    refine dr_take 0 (.pointer (some ⟨TB, 1, none⟩)) rfl rfl (by kernel_rfl) (by kernel_rfl) (by kernel_rfl) (fun _ _ _ h => h) (fun _ _ => by unfold execOp; go_simp) trivial ?_
    change wpAnyH _ _ _ _ _ _ _ { tmps := #[.pointer (some ⟨c.X, 0, none⟩), undef, .pointer (some ⟨w.heap.size, 0, none⟩), .pointer (some ⟨DB, 0, none⟩), .pointer (some ⟨TB, 0, none⟩), .pointer (some ⟨c.X, 0, none⟩), .agg #[.string nm, .int .i64 dw, .int .i64 dp], .pointer (some ⟨DB, 0, none⟩), .string nm, .pointer (some ⟨DB, 2, none⟩), .int .i64 dp, .agg #[.string nm, .slice none 0 0, .slice none 0 0, .int .i64 dp], .pointer (some ⟨c.X, 0, none⟩), .tuple #[], .pointer (some ⟨c.X, 0, none⟩), .bool true, .pointer (some ⟨TB, 1, none⟩), u17, u18, u19, u20, u21, u22, u23, undef, undef, undef, undef], defers := [] } _
    refine dr_take 2 (.pointer (some ⟨c.X, 0, none⟩)) rfl rfl (by kernel_rfl) (by kernel_rfl) (by kernel_rfl) (fun _ _ _ h => h) (fun _ _ => rfl) trivial ?_
    change wpAnyH _ _ _ _ _ _ _ { tmps := #[.pointer (some ⟨c.X, 0, none⟩), undef, .pointer (some ⟨w.heap.size, 0, none⟩), .pointer (some ⟨DB, 0, none⟩), .pointer (some ⟨TB, 0, none⟩), .pointer (some ⟨c.X, 0, none⟩), .agg #[.string nm, .int .i64 dw, .int .i64 dp], .pointer (some ⟨DB, 0, none⟩), .string nm, .pointer (some ⟨DB, 2, none⟩), .int .i64 dp, .agg #[.string nm, .slice none 0 0, .slice none 0 0, .int .i64 dp], .pointer (some ⟨c.X, 0, none⟩), .tuple #[], .pointer (some ⟨c.X, 0, none⟩), .bool true, .pointer (some ⟨TB, 1, none⟩), u17, .pointer (some ⟨c.X, 0, none⟩), u19, u20, u21, u22, u23, undef, undef, undef, undef], defers := [] } _
    refine dr_take 3 (.pointer (some ⟨c.X, 0, none⟩)) rfl rfl (by kernel_rfl) (by kernel_rfl) (by kernel_rfl) (fun _ _ _ h => h) (fun _ _ => rfl) trivial ?_
    change wpAnyH _ _ _ _ _ _ _ { tmps := #[.pointer (some ⟨c.X, 0, none⟩), undef, .pointer (some ⟨w.heap.size, 0, none⟩), .pointer (some ⟨DB, 0, none⟩), .pointer (some ⟨TB, 0, none⟩), .pointer (some ⟨c.X, 0, none⟩), .agg #[.string nm, .int .i64 dw, .int .i64 dp], .pointer (some ⟨DB, 0, none⟩), .string nm, .pointer (some ⟨DB, 2, none⟩), .int .i64 dp, .agg #[.string nm, .slice none 0 0, .slice none 0 0, .int .i64 dp], .pointer (some ⟨c.X, 0, none⟩), .tuple #[], .pointer (some ⟨c.X, 0, none⟩), .bool true, .pointer (some ⟨TB, 1, none⟩), u17, .pointer (some ⟨c.X, 0, none⟩), .pointer (some ⟨c.X, 0, none⟩), u20, u21, u22, u23, undef, undef, undef, undef], defers := [] } _
    refine dr_take 4 (.func (.func 114) #[.pointer (some ⟨c.X, 0, none⟩)] #[]) rfl rfl (by kernel_rfl) (by kernel_rfl) (by kernel_rfl) (fun _ _ _ h => h) (fun _ _ => by unfold execOp; go_simp) trivial ?_
    change wpAnyH _ _ _ _ _ _ _ { tmps := #[.pointer (some ⟨c.X, 0, none⟩), undef, .pointer (some ⟨w.heap.size, 0, none⟩), .pointer (some ⟨DB, 0, none⟩), .pointer (some ⟨TB, 0, none⟩), .pointer (some ⟨c.X, 0, none⟩), .agg #[.string nm, .int .i64 dw, .int .i64 dp], .pointer (some ⟨DB, 0, none⟩), .string nm, .pointer (some ⟨DB, 2, none⟩), .int .i64 dp, .agg #[.string nm, .slice none 0 0, .slice none 0 0, .int .i64 dp], .pointer (some ⟨c.X, 0, none⟩), .tuple #[], .pointer (some ⟨c.X, 0, none⟩), .bool true, .pointer (some ⟨TB, 1, none⟩), u17, .pointer (some ⟨c.X, 0, none⟩), .pointer (some ⟨c.X, 0, none⟩), .func (.func 114) #[.pointer (some ⟨c.X, 0, none⟩)] #[], u21, u22, u23, undef, undef, undef, undef], defers := [] } _
    refine dr_two 1 5 rfl rfl rfl rfl (by kernel_rfl) ?_ ?_
    · refine wp_ld_dcs rfl rfl (G.cell (i := 1) (v := vL) rfl) ⟨trivial, ?_⟩
      change wpAnyH _ _ _ _ _ _ _ { tmps := #[.pointer (some ⟨c.X, 0, none⟩), undef, .pointer (some ⟨w.heap.size, 0, none⟩), .pointer (some ⟨DB, 0, none⟩), .pointer (some ⟨TB, 0, none⟩), .pointer (some ⟨c.X, 0, none⟩), .agg #[.string nm, .int .i64 dw, .int .i64 dp], .pointer (some ⟨DB, 0, none⟩), .string nm, .pointer (some ⟨DB, 2, none⟩), .int .i64 dp, .agg #[.string nm, .slice none 0 0, .slice none 0 0, .int .i64 dp], .pointer (some ⟨c.X, 0, none⟩), .tuple #[], .pointer (some ⟨c.X, 0, none⟩), .bool true, .pointer (some ⟨TB, 1, none⟩), vL, .pointer (some ⟨c.X, 0, none⟩), .pointer (some ⟨c.X, 0, none⟩), .func (.func 114) #[.pointer (some ⟨c.X, 0, none⟩)] #[], u21, u22, u23, undef, undef, undef, undef], defers := [] } _
      refine dr_one 5 rfl rfl (by kernel_rfl) ?_
      refine wp_call (vs := #[.pointer (some ⟨c.X, 0, none⟩), .func (.func 114) #[.pointer (some ⟨c.X, 0, none⟩)] #[]]) rfl rfl (enters_of Tryz.func116 (by kernel_rfl) rfl) (by simp [Act.eval]) (HC4.out _ (G.run.rd HR.out)) ?_
      rintro e w4 ⟨hf4, hm⟩
      rcases Z4 with ⟨d, r⟩ | ⟨q, rl⟩
      rotate_left
      · obtain rfl := hm
        have AZ := G.run.fr.trans hf4
        have AZ := Lib.hid AZ
        clear hf4
        go_wp2_with fail
        refine ⟨rfl, ?_⟩
        show RdPost c w Y _ _ _
        rw [HS.out, HZ.out]
        exact ⟨AZ.out, rfl⟩
      obtain ⟨v1, k3, rfl, ⟨hrow1, hd1⟩, hR1, rfl⟩ := hm
      have G1 := G.call hf4 hR1 hX.out
      have hlen := HN4.out _ _ rfl
      obtain ⟨g1, cap1, rfl, hg1, hlt1⟩ := hrow1.form (List.length_pos_iff.2 hd1)
      refine ⟨trivial, ?_⟩
      change wpAnyH _ _ _ _ _ _ _ { tmps := #[.pointer (some ⟨c.X, 0, none⟩), undef, .pointer (some ⟨w.heap.size, 0, none⟩), .pointer (some ⟨DB, 0, none⟩), .pointer (some ⟨TB, 0, none⟩), .pointer (some ⟨c.X, 0, none⟩), .agg #[.string nm, .int .i64 dw, .int .i64 dp], .pointer (some ⟨DB, 0, none⟩), .string nm, .pointer (some ⟨DB, 2, none⟩), .int .i64 dp, .agg #[.string nm, .slice none 0 0, .slice none 0 0, .int .i64 dp], .pointer (some ⟨c.X, 0, none⟩), .tuple #[], .pointer (some ⟨c.X, 0, none⟩), .bool true, .pointer (some ⟨TB, 1, none⟩), vL, .pointer (some ⟨c.X, 0, none⟩), .pointer (some ⟨c.X, 0, none⟩), .func (.func 114) #[.pointer (some ⟨c.X, 0, none⟩)] #[], .slice (some ⟨g1, 0, none⟩) d.length cap1, u22, u23, undef, undef, undef, undef], defers := [] } _
      refine dr_one 6 rfl rfl (by kernel_rfl) ?_
      obtain ⟨i0, hi, hi0, hi1, hi2⟩ := info_parts infoDc
      refine wp_append_lies w4 _ _ 22 rfl w.heap.size 66 i0 _ 3 32 Tryz.underlying22 hi hi0 hi1 hi2 rfl (by decide) vL l.length (dcsL l) rfl G1.row ⟨g1, 0, none⟩ d.length cap1 (dcsL d) rfl (dcsL_len d) (row_news hrow1) (dcsL_cells d) (List.length_pos_iff.2 hd1) (by simp only [maxLen]; have := HFU.out.2; have := HAT.out; omega) (by have := HFU.out.2; have := HAT.out; omega) (by have := G1.run.fr.size; omega) _ rfl ?_
      intro g2 cap2 w5 hown2 hgrow2 hlies2 hlt2
      refine ⟨trivial, ?_⟩
      change wpAnyH _ _ _ _ _ _ _ { tmps := #[.pointer (some ⟨c.X, 0, none⟩), undef, .pointer (some ⟨w.heap.size, 0, none⟩), .pointer (some ⟨DB, 0, none⟩), .pointer (some ⟨TB, 0, none⟩), .pointer (some ⟨c.X, 0, none⟩), .agg #[.string nm, .int .i64 dw, .int .i64 dp], .pointer (some ⟨DB, 0, none⟩), .string nm, .pointer (some ⟨DB, 2, none⟩), .int .i64 dp, .agg #[.string nm, .slice none 0 0, .slice none 0 0, .int .i64 dp], .pointer (some ⟨c.X, 0, none⟩), .tuple #[], .pointer (some ⟨c.X, 0, none⟩), .bool true, .pointer (some ⟨TB, 1, none⟩), vL, .pointer (some ⟨c.X, 0, none⟩), .pointer (some ⟨c.X, 0, none⟩), .func (.func 114) #[.pointer (some ⟨c.X, 0, none⟩)] #[], .slice (some ⟨g1, 0, none⟩) d.length cap1, .slice (some ⟨g2, 0, none⟩) (l.length + d.length) cap2, u23, undef, undef, undef, undef], defers := [] } _
      refine dr_take 7 (.pointer (some ⟨TB, 1, none⟩)) rfl rfl (by kernel_rfl) (by kernel_rfl) (by kernel_rfl) (fun _ _ _ h => h) (fun _ _ => by unfold execOp; go_simp) trivial ?_
      change wpAnyH _ _ _ _ _ _ _ { tmps := #[.pointer (some ⟨c.X, 0, none⟩), undef, .pointer (some ⟨w.heap.size, 0, none⟩), .pointer (some ⟨DB, 0, none⟩), .pointer (some ⟨TB, 0, none⟩), .pointer (some ⟨c.X, 0, none⟩), .agg #[.string nm, .int .i64 dw, .int .i64 dp], .pointer (some ⟨DB, 0, none⟩), .string nm, .pointer (some ⟨DB, 2, none⟩), .int .i64 dp, .agg #[.string nm, .slice none 0 0, .slice none 0 0, .int .i64 dp], .pointer (some ⟨c.X, 0, none⟩), .tuple #[], .pointer (some ⟨c.X, 0, none⟩), .bool true, .pointer (some ⟨TB, 1, none⟩), vL, .pointer (some ⟨c.X, 0, none⟩), .pointer (some ⟨c.X, 0, none⟩), .func (.func 114) #[.pointer (some ⟨c.X, 0, none⟩)] #[], .slice (some ⟨g1, 0, none⟩) d.length cap1, .slice (some ⟨g2, 0, none⟩) (l.length + d.length) cap2, .pointer (some ⟨TB, 1, none⟩), undef, undef, undef, undef], defers := [] } _
      refine dr_one 8 rfl rfl (by kernel_rfl) ?_
      obtain ⟨B1, B2, B3⟩ := G1.grown hgrow2 hX.out
      refine wp_st_dcs rfl rfl rfl (u := vL) (by rw [cell_of_row w5 _ 1 _ _ _ B3]; rfl) (own_frozen B3 1) ⟨trivial, ?_⟩
      rw [setCell_row B3 1 _]
      have G3 := Lib.hid (G1.end_ hX.out hgrow2 hown2)
      have HLN := Lib.hid hlen
      refine wpAnyH_done (by kernel_rfl) ?_ _
      clear hrow1 hown2 hgrow2 hlies2 B1 B2 B3 G1 hlen
      go_wp2_with fail
      go_roundg m
      case measure => omega
      case rel =>
       refine ⟨⟨k3, l ++ d, _, G3.out, HZ.out.symm, by have := HFU.out.1; have := HLN.out; have := HAT.out; omega, by have := HFU.out.2; have := HLN.out; have := HAT.out; rw [List.length_append]; omega⟩, by have := HGN.out; omega⟩
    · skip
      refine wp_call (vs := #[.pointer (some ⟨c.X, 0, none⟩), .func (.func 114) #[.pointer (some ⟨c.X, 0, none⟩)] #[]]) rfl rfl (enters_of Tryz.func116 (by kernel_rfl) rfl) (by simp [Act.eval]) (HC4.out _ (G.run.rd HR.out)) ?_
      rintro e w4 ⟨hf4, hm⟩
      rcases Z4 with ⟨d, r⟩ | ⟨q, rl⟩
      rotate_left
      · obtain rfl := hm
        have AZ := G.run.fr.trans hf4
        have AZ := Lib.hid AZ
        clear hf4
        go_wp2_with fail
        refine ⟨rfl, ?_⟩
        show RdPost c w Y _ _ _
        rw [HS.out, HZ.out]
        exact ⟨AZ.out, rfl⟩
      obtain ⟨v1, k3, rfl, ⟨hrow1, hd1⟩, hR1, rfl⟩ := hm
      have G1 := G.call hf4 hR1 hX.out
      have hlen := HN4.out _ _ rfl
      obtain ⟨g1, cap1, rfl, hg1, hlt1⟩ := hrow1.form (List.length_pos_iff.2 hd1)
      refine ⟨trivial, ?_⟩
      change wpAnyH _ _ _ _ _ _ _ { tmps := #[.pointer (some ⟨c.X, 0, none⟩), undef, .pointer (some ⟨w.heap.size, 0, none⟩), .pointer (some ⟨DB, 0, none⟩), .pointer (some ⟨TB, 0, none⟩), .pointer (some ⟨c.X, 0, none⟩), .agg #[.string nm, .int .i64 dw, .int .i64 dp], .pointer (some ⟨DB, 0, none⟩), .string nm, .pointer (some ⟨DB, 2, none⟩), .int .i64 dp, .agg #[.string nm, .slice none 0 0, .slice none 0 0, .int .i64 dp], .pointer (some ⟨c.X, 0, none⟩), .tuple #[], .pointer (some ⟨c.X, 0, none⟩), .bool true, .pointer (some ⟨TB, 1, none⟩), u17, .pointer (some ⟨c.X, 0, none⟩), .pointer (some ⟨c.X, 0, none⟩), .func (.func 114) #[.pointer (some ⟨c.X, 0, none⟩)] #[], .slice (some ⟨g1, 0, none⟩) d.length cap1, u22, u23, undef, undef, undef, undef], defers := [] } _
      refine dr_one 1 rfl rfl (by kernel_rfl) ?_
      refine wp_ld_dcs rfl rfl (G1.cell (i := 1) (v := vL) rfl) ⟨trivial, ?_⟩
      change wpAnyH _ _ _ _ _ _ _ { tmps := #[.pointer (some ⟨c.X, 0, none⟩), undef, .pointer (some ⟨w.heap.size, 0, none⟩), .pointer (some ⟨DB, 0, none⟩), .pointer (some ⟨TB, 0, none⟩), .pointer (some ⟨c.X, 0, none⟩), .agg #[.string nm, .int .i64 dw, .int .i64 dp], .pointer (some ⟨DB, 0, none⟩), .string nm, .pointer (some ⟨DB, 2, none⟩), .int .i64 dp, .agg #[.string nm, .slice none 0 0, .slice none 0 0, .int .i64 dp], .pointer (some ⟨c.X, 0, none⟩), .tuple #[], .pointer (some ⟨c.X, 0, none⟩), .bool true, .pointer (some ⟨TB, 1, none⟩), vL, .pointer (some ⟨c.X, 0, none⟩), .pointer (some ⟨c.X, 0, none⟩), .func (.func 114) #[.pointer (some ⟨c.X, 0, none⟩)] #[], .slice (some ⟨g1, 0, none⟩) d.length cap1, u22, u23, undef, undef, undef, undef], defers := [] } _
      refine dr_one 6 rfl rfl (by kernel_rfl) ?_
      obtain ⟨i0, hi, hi0, hi1, hi2⟩ := info_parts infoDc
      refine wp_append_lies w4 _ _ 22 rfl w.heap.size 66 i0 _ 3 32 Tryz.underlying22 hi hi0 hi1 hi2 rfl (by decide) vL l.length (dcsL l) rfl G1.row ⟨g1, 0, none⟩ d.length cap1 (dcsL d) rfl (dcsL_len d) (row_news hrow1) (dcsL_cells d) (List.length_pos_iff.2 hd1) (by simp only [maxLen]; have := HFU.out.2; have := HAT.out; omega) (by have := HFU.out.2; have := HAT.out; omega) (by have := G1.run.fr.size; omega) _ rfl ?_
      intro g2 cap2 w5 hown2 hgrow2 hlies2 hlt2
      refine ⟨trivial, ?_⟩
      change wpAnyH _ _ _ _ _ _ _ { tmps := #[.pointer (some ⟨c.X, 0, none⟩), undef, .pointer (some ⟨w.heap.size, 0, none⟩), .pointer (some ⟨DB, 0, none⟩), .pointer (some ⟨TB, 0, none⟩), .pointer (some ⟨c.X, 0, none⟩), .agg #[.string nm, .int .i64 dw, .int .i64 dp], .pointer (some ⟨DB, 0, none⟩), .string nm, .pointer (some ⟨DB, 2, none⟩), .int .i64 dp, .agg #[.string nm, .slice none 0 0, .slice none 0 0, .int .i64 dp], .pointer (some ⟨c.X, 0, none⟩), .tuple #[], .pointer (some ⟨c.X, 0, none⟩), .bool true, .pointer (some ⟨TB, 1, none⟩), vL, .pointer (some ⟨c.X, 0, none⟩), .pointer (some ⟨c.X, 0, none⟩), .func (.func 114) #[.pointer (some ⟨c.X, 0, none⟩)] #[], .slice (some ⟨g1, 0, none⟩) d.length cap1, .slice (some ⟨g2, 0, none⟩) (l.length + d.length) cap2, u23, undef, undef, undef, undef], defers := [] } _
      refine dr_take 7 (.pointer (some ⟨TB, 1, none⟩)) rfl rfl (by kernel_rfl) (by kernel_rfl) (by kernel_rfl) (fun _ _ _ h => h) (fun _ _ => by unfold execOp; go_simp) trivial ?_
      change wpAnyH _ _ _ _ _ _ _ { tmps := #[.pointer (some ⟨c.X, 0, none⟩), undef, .pointer (some ⟨w.heap.size, 0, none⟩), .pointer (some ⟨DB, 0, none⟩), .pointer (some ⟨TB, 0, none⟩), .pointer (some ⟨c.X, 0, none⟩), .agg #[.string nm, .int .i64 dw, .int .i64 dp], .pointer (some ⟨DB, 0, none⟩), .string nm, .pointer (some ⟨DB, 2, none⟩), .int .i64 dp, .agg #[.string nm, .slice none 0 0, .slice none 0 0, .int .i64 dp], .pointer (some ⟨c.X, 0, none⟩), .tuple #[], .pointer (some ⟨c.X, 0, none⟩), .bool true, .pointer (some ⟨TB, 1, none⟩), vL, .pointer (some ⟨c.X, 0, none⟩), .pointer (some ⟨c.X, 0, none⟩), .func (.func 114) #[.pointer (some ⟨c.X, 0, none⟩)] #[], .slice (some ⟨g1, 0, none⟩) d.length cap1, .slice (some ⟨g2, 0, none⟩) (l.length + d.length) cap2, .pointer (some ⟨TB, 1, none⟩), undef, undef, undef, undef], defers := [] } _
      refine dr_one 8 rfl rfl (by kernel_rfl) ?_
      obtain ⟨B1, B2, B3⟩ := G1.grown hgrow2 hX.out
      refine wp_st_dcs rfl rfl rfl (u := vL) (by rw [cell_of_row w5 _ 1 _ _ _ B3]; rfl) (own_frozen B3 1) ⟨trivial, ?_⟩
      rw [setCell_row B3 1 _]
      have G3 := Lib.hid (G1.end_ hX.out hgrow2 hown2)
      have HLN := Lib.hid hlen
      refine wpAnyH_done (by kernel_rfl) ?_ _
      clear hrow1 hown2 hgrow2 hlies2 B1 B2 B3 G1 hlen
      go_wp2_with fail
      go_roundg m
      case measure => omega
      case rel =>
       refine ⟨⟨k3, l ++ d, _, G3.out, HZ.out.symm, by have := HFU.out.1; have := HLN.out; have := HAT.out; omega, by have := HFU.out.2; have := HLN.out; have := HAT.out; rw [List.length_append]; omega⟩, by have := HGN.out; omega⟩
end Go.Proofs.YtikaflpiephaiaaGreatDoor

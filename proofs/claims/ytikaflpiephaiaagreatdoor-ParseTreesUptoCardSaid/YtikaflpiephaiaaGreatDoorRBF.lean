/- The proof, part 32: texts that belong together, in one. -/
import Derived.Test.YtikaflpiephaiaaGreatDoorRBE
import Derived.Deep.MidRow
import Derived.OwnWalk
import Derived.WalkSpells
import Derived.Test.YtikaflpiephaiaaGreatDoorRAA
set_option maxRecDepth 100000
set_option maxHeartbeats 20000000
namespace Go.Proofs.YtikaflpiephaiaaGreatDoor
open Go.RowKit
set_option linter.unusedVariables false
def nmOk (s : ByteArray) : Prop := s.size ≤ 140737488355328
mutual
def fitE : Ex → Prop
 | .mk _ _ _ n ks _ => nmOk n ∧ 64 * ks.length ≤ 140737488355328 ∧ fitEs ks
def fitEs : List Ex → Prop
 | [] => True
 | e :: r => fitE e ∧ fitEs r
end
theorem fitEs_mem : ∀ {l : List Ex}, fitEs l → ∀ x ∈ l, fitE x
 | [], _, x, hx => by simp at hx
 | y :: r, h, x, hx => by
   rcases List.mem_cons.1 hx with rfl | hx
   · exact h.1
   · exact fitEs_mem h.2 x hx
theorem infoEx : (Tryz.prog.info? 38).map (fun i => (i.zero, i.size, i.bytes)) = some (some (.agg zEx), 6, 64) := by kernel_rfl
theorem below_setCells {B : Nat} {w : World} {g : Nat} (hg : B ≤ g) : ∀ (vs : List Value) (o : Nat) (W : World), Below B w W → Below B w (W.setCells g o vs)
 | [], _, _, h => h
 | v :: r, o, W, h => below_setCells hg r (o + 1) _ (h.setCell hg v)
theorem size_setCells (g : Nat) : ∀ (vs : List Value) (o : Nat) (W : World), (W.setCells g o vs).heap.size = W.heap.size
 | [], _, _ => rfl
 | v :: r, o, W => by rw [World.setCells, size_setCells g r, World.size_setCell]
theorem stays_setCells {R : Nat → Prop} (W : World) {g : Nat} (o : Nat) (vs : List Value) (hx : ∀ b, R b → b ≠ g) : Stays R W (W.setCells g o vs) := fun b o' v hb hv => by
 rw [World.cell?_setCells_out g vs o W ⟨b, o', none⟩ (fun e _ => absurd e (hx b hb))]; exact hv
theorem out_setCells (W : World) {g o o' : Nat} (vs : List Value) (h : o' < o) {v : Value} (hv : W.cell? ⟨g, o', none⟩ = some v) : (W.setCells g o vs).cell? ⟨g, o', none⟩ = some v := by
 rw [World.cell?_setCells_out g vs o W ⟨g, o', none⟩ (fun _ _ => .inl h)]; exact hv
theorem there_below {W W' : World} {g o n : Nat} (h : W.there g o n) (hg : g < W.heap.size) (hb : Below W.heap.size W W') : W'.there g o n := fun j hj => by
 obtain ⟨h1, h2⟩ := h j hj
 rw [hb.cell (p := ⟨g, o + j, none⟩) hg, hb.frozen (p := ⟨g, o + j, none⟩) hg]
 exact ⟨h1, h2⟩
theorem there_part {W : World} {g n : Nat} (h : W.there g 0 n) {o k : Nat} (hk : o + k ≤ n) : W.there g o k := fun j hj => by
 have := h (o + j) (by omega)
 simpa using this
theorem there_made {W : World} {B g : Nat} {T : TypeId} {k n : Nat} {xs : List Value} (h : W.ownsRow B T k (.slice (some ⟨g, 0, none⟩) n n) n xs) : W.there g 0 (n * k) := by
 obtain ⟨hl, h | ⟨g', cap, cur, hv, _, hb, _, _, hs, hx⟩⟩ := h
 · obtain ⟨h1, h2⟩ := h; cases h1
 · have hv2 : g = g' ∧ n = cap := by
    injection hv with h1 h2 h3; injection h1 with h1; injection h1 with h1; exact ⟨h1, h3⟩
   obtain ⟨hg, hc⟩ := hv2
   subst hg
   subst hc
   intro j hj
   have hjs : j < cur.size := by omega
   rw [Nat.zero_add]
   exact ⟨by rw [cell_of_row _ _ j _ _ _ hb, Array.getElem?_eq_getElem hjs]; rfl, by simp only [World.frozen?, hb]; rfl⟩
theorem made_lt {W : World} {B g : Nat} {T : TypeId} {k n : Nat} {xs : List Value} (h : W.ownsRow B T k (.slice (some ⟨g, 0, none⟩) n n) n xs) : g < W.heap.size := by
 obtain ⟨hl, h | ⟨g', cap, cur, hv, _, hb, _⟩⟩ := h
 · obtain ⟨h1, h2⟩ := h; cases h1
 · have hv2 : g = g' := by
    injection hv with h1 h2 h3; injection h1 with h1; injection h1 with h1
   subst hv2
   exact (Array.getElem?_eq_some_iff.1 hb).1
theorem there_setCells2 {W : World} {g n : Nat} (h : W.there g 0 n) (o : Nat) (vs : List Value) : (W.setCells g o vs).there g 0 n := World.there_setCells h g o vs
theorem cellsIn_setCells {W : World} {g o : Nat} {vs : List Value} (h : W.there g o vs.length) : cellsIn (W.setCells g o vs) g o vs := fun j v hj => by
 have hjl : j < vs.length := (List.getElem?_eq_some_iff.1 hj).1
 have := World.cell?_setCells_in g vs o W (fun i hi => (h i hi).1) j hjl
 rw [this]
 rw [List.getElem?_eq_getElem hjl] at hj
 exact hj
theorem p_clone (s : ByteArray) (h : nmOk s) (w : World) : Calls Tryz.prog 74 #[.string s] w fun e w' => e = .returned (.string s) ∧ Below w.heap.size w w' := by
 unfold nmOk at h
 have HC : Hid (Calls Tryz.prog 125 #[.string s] w fun e w' => e = .returned (.string s) ∧ Below w.heap.size w w') := Tryz.stringslite_Clone s w (by omega)
 clear h
 go_enter Tryz.func74, Tryz.ntmps74
 go_wp2_with fail
 go_at_call 125
 refine HC.out.mono ?_
 rintro e w1 ⟨rfl, hb⟩
 have HB := Lib.hid hb
 clear hb
 go_wp2_with fail
 go_ret
 exact ⟨rfl, HB.out⟩
mutual
def fitS : St → Prop
 | .mk _ n o e b l _ => nmOk n ∧ nmOk o ∧ (64 * e.length ≤ 140737488355328 ∧ fitEs e) ∧ (120 * b.length ≤ 140737488355328 ∧ fitSs b) ∧ 120 * l.length ≤ 140737488355328 ∧ fitSs l
def fitSs : List St → Prop
 | [] => True
 | x :: r => fitS x ∧ fitSs r
end
theorem fitSs_mem : ∀ {l : List St}, fitSs l → ∀ x ∈ l, fitS x
 | [], _, x, hx => by simp at hx
 | y :: r, h, x, hx => by
   rcases List.mem_cons.1 hx with rfl | hx
   · exact h.1
   · exact fitSs_mem h.2 x hx
def fitD (d : Dc) : Prop := nmOk d.name
def fitDs (l : List Dc) : Prop := ∀ d ∈ l, fitD d
theorem fitDs_mem {l : List Dc} (h : fitDs l) : ∀ x ∈ l, fitD x := h
def fitT (t : Th) : Prop := nmOk t.name ∧ (32 * t.locals.length ≤ 140737488355328 ∧ fitDs t.locals) ∧ 120 * t.body.length ≤ 140737488355328 ∧ fitSs t.body
def fitTs (l : List Th) : Prop := ∀ t ∈ l, fitT t
theorem fitTs_mem {l : List Th} (h : fitTs l) : ∀ x ∈ l, fitT x := h
theorem exsIn_move {R : Nat → Prop} {W W' : World} {g lim : Nat} (hc : ∀ o v, o < lim → W.cell? ⟨g, o, none⟩ = some v → W'.cell? ⟨g, o, none⟩ = some v) (hs : Stays (fun b => R b ∧ b < W.heap.size) W W') : ∀ (l : List Ex) (q : Nat), q + l.length * 6 ≤ lim → exsIn R W l g q → exsIn R W' l g q
 | [], q, _, _ => trivial
 | .mk k op wd nm ks ps :: r, q, ho, h => by
   simp only [List.length_cons] at ho
   obtain ⟨⟨c0, c1, c2, c3, ⟨a, cap, c4, h4⟩, c5⟩, hr⟩ := h
   exact ⟨⟨hc _ _ (by omega) c0, hc _ _ (by omega) c1, hc _ _ (by omega) c2, hc _ _ (by omega) c3, ⟨a, cap, hc _ _ (by omega) c4, exsAt_stays hs (fun b hb => hb.1) (exsAt_in h4)⟩, hc _ _ (by omega) c5⟩, exsIn_move hc hs r (q + 6) (by omega) hr⟩
theorem exsIn_snoc {R : Nat → Prop} {w : World} {b : Nat} : ∀ (l : List Ex) (q : Nat) (x : Ex), exsIn R w l b q → exIn R w x b (q + l.length * 6) → exsIn R w (l ++ [x]) b q
 | [], q, x, _, h => ⟨by simpa using h, trivial⟩
 | y :: r, q, x, h, hx => ⟨h.1, exsIn_snoc (R := R) r (q + 6) x h.2 (by rw [show q + 6 + r.length * 6 = q + (y :: r).length * 6 by simp; omega]; exact hx)⟩
theorem dcsIn_move {R : Nat → Prop} {W W' : World} {g lim : Nat} (hc : ∀ o v, o < lim → W.cell? ⟨g, o, none⟩ = some v → W'.cell? ⟨g, o, none⟩ = some v) (hs : Stays (fun b => R b ∧ b < W.heap.size) W W') : ∀ (l : List Dc) (q : Nat), q + l.length * 3 ≤ lim → dcsIn W l g q → dcsIn W' l g q
 | [], q, _, _ => trivial
 | d :: r, q, ho, h => by
   simp only [List.length_cons] at ho
   obtain ⟨⟨c0, c1, c2⟩, hr⟩ := h
   exact ⟨⟨hc _ _ (by omega) c0, hc _ _ (by omega) c1, hc _ _ (by omega) c2⟩, dcsIn_move hc hs r (q + 3) (by omega) hr⟩
theorem dcsIn_snoc {R : Nat → Prop} {w : World} {b : Nat} : ∀ (l : List Dc) (q : Nat) (x : Dc), dcsIn w l b q → dcIn w x b (q + l.length * 3) → dcsIn w (l ++ [x]) b q
 | [], q, x, _, h => ⟨by simpa using h, trivial⟩
 | y :: r, q, x, h, hx => ⟨h.1, dcsIn_snoc (R := R) r (q + 3) x h.2 (by rw [show q + 3 + r.length * 3 = q + (y :: r).length * 3 by simp; omega]; exact hx)⟩
theorem stsIn_move {R : Nat → Prop} {W W' : World} {g lim : Nat} (hc : ∀ o v, o < lim → W.cell? ⟨g, o, none⟩ = some v → W'.cell? ⟨g, o, none⟩ = some v) (hs : Stays (fun b => R b ∧ b < W.heap.size) W W') : ∀ (l : List St) (q : Nat), q + l.length * 7 ≤ lim → stsIn R W l g q → stsIn R W' l g q
 | [], q, _, _ => trivial
 | .mk k n o e bd el p :: r, q, ho, h => by
   simp only [List.length_cons] at ho
   obtain ⟨⟨c0, c1, c2, ⟨a3, p3, c3, h3⟩, ⟨a4, p4, c4, h4⟩, ⟨a5, p5, c5, h5⟩, c6⟩, hr⟩ := h
   exact ⟨⟨hc _ _ (by omega) c0, hc _ _ (by omega) c1, hc _ _ (by omega) c2, ⟨a3, p3, hc _ _ (by omega) c3, exsAt_stays hs (fun b hb => hb.1) (exsAt_in h3)⟩, ⟨a4, p4, hc _ _ (by omega) c4, stsAt_stays hs (fun b hb => hb.1) (stsAt_in h4)⟩, ⟨a5, p5, hc _ _ (by omega) c5, stsAt_stays hs (fun b hb => hb.1) (stsAt_in h5)⟩, hc _ _ (by omega) c6⟩, stsIn_move hc hs r (q + 7) (by omega) hr⟩
theorem stsIn_snoc {R : Nat → Prop} {w : World} {b : Nat} : ∀ (l : List St) (q : Nat) (x : St), stsIn R w l b q → stIn R w x b (q + l.length * 7) → stsIn R w (l ++ [x]) b q
 | [], q, x, _, h => ⟨by simpa using h, trivial⟩
 | y :: r, q, x, h, hx => ⟨h.1, stsIn_snoc (R := R) r (q + 7) x h.2 (by rw [show q + 7 + r.length * 7 = q + (y :: r).length * 7 by simp; omega]; exact hx)⟩
theorem thsIn_move {R : Nat → Prop} {W W' : World} {g lim : Nat} (hc : ∀ o v, o < lim → W.cell? ⟨g, o, none⟩ = some v → W'.cell? ⟨g, o, none⟩ = some v) (hs : Stays (fun b => R b ∧ b < W.heap.size) W W') : ∀ (l : List Th) (q : Nat), q + l.length * 4 ≤ lim → thsIn R W l g q → thsIn R W' l g q
 | [], q, _, _ => trivial
 | t :: r, q, ho, h => by
   simp only [List.length_cons] at ho
   obtain ⟨⟨c0, ⟨a3, p3, c3, h3⟩, ⟨a4, p4, c4, h4⟩, c5⟩, hr⟩ := h
   exact ⟨⟨hc _ _ (by omega) c0, ⟨a3, p3, hc _ _ (by omega) c3, dcsAt_stays hs (fun b hb => hb.1) (dcsAt_in h3)⟩, ⟨a4, p4, hc _ _ (by omega) c4, stsAt_stays hs (fun b hb => hb.1) (stsAt_in h4)⟩, hc _ _ (by omega) c5⟩, thsIn_move hc hs r (q + 4) (by omega) hr⟩
theorem thsIn_snoc {R : Nat → Prop} {w : World} {b : Nat} : ∀ (l : List Th) (q : Nat) (x : Th), thsIn R w l b q → thIn R w x b (q + l.length * 4) → thsIn R w (l ++ [x]) b q
 | [], q, x, _, h => ⟨by simpa using h, trivial⟩
 | y :: r, q, x, h, hx => ⟨h.1, thsIn_snoc (R := R) r (q + 4) x h.2 (by rw [show q + 4 + r.length * 4 = q + (y :: r).length * 4 by simp; omega]; exact hx)⟩
theorem cp_step_E {B G B2 n i : Nat} {W : World} {l : List Ex} {x : Ex} (il : i < l.length) (hx : l[i]? = some x) (hn : l.length ≤ n) (hB : B ≤ B2) (hG : G < B2) (hth : W.there G 0 (n * 6)) (hI : exsIn (fun b => B ≤ b ∧ b ≠ G) W (l.take i) G 0) {a : Option Addr} {c : Nat} (h1 : exsAt (fun b => B2 ≤ b) W x.kids a) :
 exsIn (fun b => B ≤ b ∧ b ≠ G) (W.setCells G (i * 6) (exCells x a c)) (l.take (i + 1)) G 0 := by
 have hlen : (exCells x a c).length = 6 := rfl
 have hti : (l.take i).length = i := by rw [List.length_take]; omega
 have hxe : l[i] = x := by rw [List.getElem?_eq_getElem il] at hx; exact Option.some.inj hx
 rw [take_one il, hxe]
 have hs2 : Stays (fun b => B2 ≤ b) W (W.setCells G (i * 6) (exCells x a c)) := stays_setCells W _ _ (fun b hb => by omega)
 have hci : cellsIn (W.setCells G (i * 6) (exCells x a c)) G (i * 6) (exCells x a c) := cellsIn_setCells (there_part hth (by rw [hlen]; omega))
 refine exsIn_snoc (R := fun b => B ≤ b ∧ b ≠ G) _ 0 x (exsIn_move (R := fun b => B ≤ b ∧ b ≠ G) (lim := i * 6) (fun o v ho hv => out_setCells W _ ho hv) (stays_setCells W _ _ (fun b hb => hb.1.2)) _ 0 (by rw [hti]; omega) hI) ?_
 rw [hti, Nat.zero_add]
 exact exIn_of ⟨a, c, rfl, exsAt_stays hs2 (fun b hb => ⟨by omega, by omega⟩) h1⟩ hci
theorem cp_step_D {B G B2 n i : Nat} {W : World} {l : List Dc} {x : Dc} (il : i < l.length) (hx : l[i]? = some x) (hn : l.length ≤ n) (hB : B ≤ B2) (hG : G < B2) (hth : W.there G 0 (n * 3)) (hI : dcsIn W (l.take i) G 0)  :
 dcsIn (W.setCells G (i * 3) (dcCells x)) (l.take (i + 1)) G 0 := by
 have hlen : (dcCells x).length = 3 := rfl
 have hti : (l.take i).length = i := by rw [List.length_take]; omega
 have hxe : l[i] = x := by rw [List.getElem?_eq_getElem il] at hx; exact Option.some.inj hx
 rw [take_one il, hxe]
 have hs2 : Stays (fun b => B2 ≤ b) W (W.setCells G (i * 3) (dcCells x)) := stays_setCells W _ _ (fun b hb => by omega)
 have hci : cellsIn (W.setCells G (i * 3) (dcCells x)) G (i * 3) (dcCells x) := cellsIn_setCells (there_part hth (by rw [hlen]; omega))
 refine dcsIn_snoc (R := fun b => B ≤ b ∧ b ≠ G) _ 0 x (dcsIn_move (R := fun b => B ≤ b ∧ b ≠ G) (lim := i * 3) (fun o v ho hv => out_setCells W _ ho hv) (stays_setCells W _ _ (fun b hb => hb.1.2)) _ 0 (by rw [hti]; omega) hI) ?_
 rw [hti, Nat.zero_add]
 exact dcIn_of hci
theorem cp_step_S {B G B2 n i : Nat} {W : World} {l : List St} {x : St} (il : i < l.length) (hx : l[i]? = some x) (hn : l.length ≤ n) (hB : B ≤ B2) (hG : G < B2) (hth : W.there G 0 (n * 7)) (hI : stsIn (fun b => B ≤ b ∧ b ≠ G) W (l.take i) G 0) {a3 a4 a5 : Option Addr} {c3 c4 c5 : Nat} (h3 : exsAt (fun b => B2 ≤ b) W x.e a3) (h4 : stsAt (fun b => B2 ≤ b) W x.body a4) (h5 : stsAt (fun b => B2 ≤ b) W x.els a5) :
 stsIn (fun b => B ≤ b ∧ b ≠ G) (W.setCells G (i * 7) (stCells x a3 c3 a4 c4 a5 c5)) (l.take (i + 1)) G 0 := by
 have hlen : (stCells x a3 c3 a4 c4 a5 c5).length = 7 := rfl
 have hti : (l.take i).length = i := by rw [List.length_take]; omega
 have hxe : l[i] = x := by rw [List.getElem?_eq_getElem il] at hx; exact Option.some.inj hx
 rw [take_one il, hxe]
 have hs2 : Stays (fun b => B2 ≤ b) W (W.setCells G (i * 7) (stCells x a3 c3 a4 c4 a5 c5)) := stays_setCells W _ _ (fun b hb => by omega)
 have hci : cellsIn (W.setCells G (i * 7) (stCells x a3 c3 a4 c4 a5 c5)) G (i * 7) (stCells x a3 c3 a4 c4 a5 c5) := cellsIn_setCells (there_part hth (by rw [hlen]; omega))
 refine stsIn_snoc (R := fun b => B ≤ b ∧ b ≠ G) _ 0 x (stsIn_move (R := fun b => B ≤ b ∧ b ≠ G) (lim := i * 7) (fun o v ho hv => out_setCells W _ ho hv) (stays_setCells W _ _ (fun b hb => hb.1.2)) _ 0 (by rw [hti]; omega) hI) ?_
 rw [hti, Nat.zero_add]
 exact stIn_of ⟨a3, c3, a4, c4, a5, c5, rfl, exsAt_stays hs2 (fun b hb => ⟨by omega, by omega⟩) h3, stsAt_stays hs2 (fun b hb => ⟨by omega, by omega⟩) h4, stsAt_stays hs2 (fun b hb => ⟨by omega, by omega⟩) h5⟩ hci
theorem cp_step_T {B G B2 n i : Nat} {W : World} {l : List Th} {x : Th} (il : i < l.length) (hx : l[i]? = some x) (hn : l.length ≤ n) (hB : B ≤ B2) (hG : G < B2) (hth : W.there G 0 (n * 4)) (hI : thsIn (fun b => B ≤ b ∧ b ≠ G) W (l.take i) G 0) {a1 a2 : Option Addr} {c1 c2 : Nat} (h1 : dcsAt (fun b => B2 ≤ b) W x.locals a1) (h2 : stsAt (fun b => B2 ≤ b) W x.body a2) :
 thsIn (fun b => B ≤ b ∧ b ≠ G) (W.setCells G (i * 4) (thCells x a1 c1 a2 c2)) (l.take (i + 1)) G 0 := by
 have hlen : (thCells x a1 c1 a2 c2).length = 4 := rfl
 have hti : (l.take i).length = i := by rw [List.length_take]; omega
 have hxe : l[i] = x := by rw [List.getElem?_eq_getElem il] at hx; exact Option.some.inj hx
 rw [take_one il, hxe]
 have hs2 : Stays (fun b => B2 ≤ b) W (W.setCells G (i * 4) (thCells x a1 c1 a2 c2)) := stays_setCells W _ _ (fun b hb => by omega)
 have hci : cellsIn (W.setCells G (i * 4) (thCells x a1 c1 a2 c2)) G (i * 4) (thCells x a1 c1 a2 c2) := cellsIn_setCells (there_part hth (by rw [hlen]; omega))
 refine thsIn_snoc (R := fun b => B ≤ b ∧ b ≠ G) _ 0 x (thsIn_move (R := fun b => B ≤ b ∧ b ≠ G) (lim := i * 4) (fun o v ho hv => out_setCells W _ ho hv) (stays_setCells W _ _ (fun b hb => hb.1.2)) _ 0 (by rw [hti]; omega) hI) ?_
 rw [hti, Nat.zero_add]
 exact thIn_of ⟨a1, c1, a2, c2, rfl, dcsAt_stays hs2 (fun b hb => ⟨by omega, by omega⟩) h1, stsAt_stays hs2 (fun b hb => ⟨by omega, by omega⟩) h2⟩ hci
end Go.Proofs.YtikaflpiephaiaaGreatDoor

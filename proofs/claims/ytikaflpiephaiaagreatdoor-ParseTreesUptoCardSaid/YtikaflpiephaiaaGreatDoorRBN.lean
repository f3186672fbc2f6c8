/- The proof, part 40: texts that belong together, in one. -/
import Derived.Test.YtikaflpiephaiaaGreatDoorRBI
import Derived.Test.YtikaflpiephaiaaGreatDoorRBJ
import Derived.Test.YtikaflpiephaiaaGreatDoorRBM
import Derived.Test.YtikaflpiephaiaaGreatDoorRBD
import Derived.Test.YtikaflpiephaiaaGreatDoorRBK
import Derived.Test.YtikaflpiephaiaaGreatDoorRAA
import Derived.ChangeArms
import Derived.SizedLaws
import Derived.Carry
import Derived.ChangeSame
import Derived.WideShapes
import Derived.ChangeSlices
set_option maxRecDepth 100000
set_option maxHeartbeats 20000000
namespace Go.Proofs.YtikaflpiephaiaaGreatDoor
open Go.RowKit
set_option linter.unusedVariables false
theorem sameEs_refl : ∀ {l : List Ex}, (∀ x ∈ l, sameE x x = true) → sameEs l l = true
 | [], _ => rfl
 | x :: r, h => by simp only [sameEs, h x (.head _), sameEs_refl fun y hy => h y (.tail _ hy), Bool.and_self]
theorem sameE_refl : ∀ x : Ex, sameE x x = true := by
 intro x
 induction x using Ex.ind with
 | h k o wd nm ks ps ih => simp [sameE, sameEs_refl ih]
theorem sameSs_refl : ∀ {l : List St}, (∀ x ∈ l, sameS x x = true) → sameSs l l = true
 | [], _ => rfl
 | x :: r, h => by simp only [sameSs, h x (.head _), sameSs_refl fun y hy => h y (.tail _ hy), Bool.and_self]
theorem sameS_refl : ∀ x : St, sameS x x = true := by
 intro x
 induction x using St.ind with
 | h k n o e b l ps ihb ihl => simp [sameS, sameEs_refl fun x _ => sameE_refl x, sameSs_refl ihb, sameSs_refl ihl]
theorem sameBy_refl {α : Type} {f : α → α → Bool} (hf : ∀ x, f x x = true) : ∀ l : List α, sameBy f l l = true
 | [] => by simp [sameBy]
 | x :: r => by simp [sameBy, hf x, sameBy_refl hf r]
theorem sameD_refl (x : Dc) : sameD x x = true := by simp [sameD]
theorem sameT_refl (x : Th) : sameT x x = true := by simp [sameT, sameBy_refl sameD_refl, sameSs_refl fun x _ => sameS_refl x]
theorem samePg_refl (x : Pg) : samePg x x = true := by simp [samePg, sameBy_refl sameD_refl, sameBy_refl sameT_refl]
theorem exA_below {w w' : World} {e : Ex} {v : Value} (h : exA w e v) (hb : Below w.heap.size w w') : exA w' e v := by
 obtain ⟨a, cap, h1, h2⟩ := h
 exact ⟨a, cap, h1, exsAt_below h2 hb⟩
def TS (x y : Pg) (ea eb : Ex) (B : Nat) (w : World) (g : Nat) (r1 r2 rA rB rC : Array Value) (W : World) : Prop :=
 Own W w.heap.size 25 r1 ∧ Own W (w.heap.size + 1) 25 r2 ∧ Own W (w.heap.size + 1 + 1) 38 rA ∧ Own W (w.heap.size + 1 + 1 + 1) 38 rB ∧ Own W g 25 rC ∧
 pA W x (.agg r1) ∧ pA W y (.agg r2) ∧ exA W ea (.agg rA) ∧ exA W eb (.agg rB) ∧ pA W x (.agg rC) ∧ (LTabs W ∧ Tabs W) ∧ Below B w W
section
variable {x y : Pg} {ea eb : Ex} {w W W' : World} {g : Nat} {r1 r2 rA rB rC : Array Value}
theorem ts_below (h : TS x y ea eb w.heap.size w g r1 r2 rA rB rC W) (hb : Below W.heap.size W W') : TS x y ea eb w.heap.size w g r1 r2 rA rB rC W' := by
 obtain ⟨h1, h2, h3, h4, h5, h6, h7, h8, h9, h10, h11, h12⟩ := h
 exact ⟨h1.below hb, h2.below hb, h3.below hb, h4.below hb, h5.below hb, pA_below h6 hb, pA_below h7 hb, exA_below h8 hb, exA_below h9 hb, pA_below h10 hb, ⟨h11.1.below (Nat.le_refl _) hb, h11.2.below (Nat.le_refl _) hb⟩, h12.trans (hb.mono h12.size)⟩
end
def KS (x y : Pg) (ea eb : Ex) (w : World) (g : Nat) (a1 a2 a3 b1 b2 b3 s1 s2 s3 kaA kaB : Option Addr) (n1 n2 n3 m1 m2 m3 a1' a2' a3' b1' b2' b3' s1' s2' s3' knA knB kcA kcB : Nat) (kA oA wdA psA kB oB wdB psB : Int) (nmA nmB : ByteArray) (W : World) : Prop := W.cell? ⟨w.heap.size, 0, none⟩ = some (.slice a1 n1 a1') ∧ W.cell? ⟨w.heap.size, 1, none⟩ = some (.slice a2 n2 a2') ∧ W.cell? ⟨w.heap.size, 2, none⟩ = some (.slice a3 n3 a3') ∧ W.cell? ⟨(w.heap.size + 1), 0, none⟩ = some (.slice b1 m1 b1') ∧ W.cell? ⟨(w.heap.size + 1), 1, none⟩ = some (.slice b2 m2 b2') ∧ W.cell? ⟨(w.heap.size + 1), 2, none⟩ = some (.slice b3 m3 b3') ∧ W.cell? ⟨(w.heap.size + 1 + 1), 0, none⟩ = some (.int .u8 kA) ∧ W.cell? ⟨(w.heap.size + 1 + 1), 1, none⟩ = some (.int .u8 oA) ∧ W.cell? ⟨(w.heap.size + 1 + 1), 2, none⟩ = some (.int .i64 wdA) ∧ W.cell? ⟨(w.heap.size + 1 + 1), 3, none⟩ = some (.string nmA) ∧ W.cell? ⟨(w.heap.size + 1 + 1), 4, none⟩ = some (.slice kaA knA kcA) ∧ W.cell? ⟨(w.heap.size + 1 + 1), 5, none⟩ = some (.int .i64 psA) ∧ W.cell? ⟨(w.heap.size + 1 + 1 + 1), 0, none⟩ = some (.int .u8 kB) ∧ W.cell? ⟨(w.heap.size + 1 + 1 + 1), 1, none⟩ = some (.int .u8 oB) ∧ W.cell? ⟨(w.heap.size + 1 + 1 + 1), 2, none⟩ = some (.int .i64 wdB) ∧ W.cell? ⟨(w.heap.size + 1 + 1 + 1), 3, none⟩ = some (.string nmB) ∧ W.cell? ⟨(w.heap.size + 1 + 1 + 1), 4, none⟩ = some (.slice kaB knB kcB) ∧ W.cell? ⟨(w.heap.size + 1 + 1 + 1), 5, none⟩ = some (.int .i64 psB) ∧ W.cell? ⟨g, 0, none⟩ = some (.slice s1 n1 s1') ∧ W.cell? ⟨g, 1, none⟩ = some (.slice s2 n2 s2') ∧ W.cell? ⟨g, 2, none⟩ = some (.slice s3 n3 s3') ∧ TS x y ea eb (w.heap.size) w g #[.slice a1 n1 a1', .slice a2 n2 a2', .slice a3 n3 a3'] #[.slice b1 m1 b1', .slice b2 m2 b2', .slice b3 m3 b3'] #[.int .u8 kA, .int .u8 oA, .int .i64 wdA, .string nmA, .slice kaA knA kcA, .int .i64 psA] #[.int .u8 kB, .int .u8 oB, .int .i64 wdB, .string nmB, .slice kaB knB kcB, .int .i64 psB] #[.slice s1 n1 s1', .slice s2 n2 s2', .slice s3 n3 s3'] W
section
variable {x y : Pg} {ea eb : Ex} {w W W' : World} {g : Nat} {a1 a2 a3 b1 b2 b3 s1 s2 s3 kaA kaB : Option Addr} {n1 n2 n3 m1 m2 m3 a1' a2' a3' b1' b2' b3' s1' s2' s3' knA knB kcA kcB : Nat} {kA oA wdA psA kB oB wdB psB : Int} {nmA nmB : ByteArray}
theorem ks_of (h : TS x y ea eb (w.heap.size) w g #[.slice a1 n1 a1', .slice a2 n2 a2', .slice a3 n3 a3'] #[.slice b1 m1 b1', .slice b2 m2 b2', .slice b3 m3 b3'] #[.int .u8 kA, .int .u8 oA, .int .i64 wdA, .string nmA, .slice kaA knA kcA, .int .i64 psA] #[.int .u8 kB, .int .u8 oB, .int .i64 wdB, .string nmB, .slice kaB knB kcB, .int .i64 psB] #[.slice s1 n1 s1', .slice s2 n2 s2', .slice s3 n3 s3'] W) : KS x y ea eb w g a1 a2 a3 b1 b2 b3 s1 s2 s3 kaA kaB n1 n2 n3 m1 m2 m3 a1' a2' a3' b1' b2' b3' s1' s2' s3' knA knB kcA kcB kA oA wdA psA kB oB wdB psB nmA nmB W := by
 refine ⟨?_, ?_, ?_, ?_, ?_, ?_, ?_, ?_, ?_, ?_, ?_, ?_, ?_, ?_, ?_, ?_, ?_, ?_, ?_, ?_, ?_, h⟩
 · rw [cell_of_row _ _ 0 _ _ _ h.1]; rfl
 · rw [cell_of_row _ _ 1 _ _ _ h.1]; rfl
 · rw [cell_of_row _ _ 2 _ _ _ h.1]; rfl
 · rw [cell_of_row _ _ 0 _ _ _ h.2.1]; rfl
 · rw [cell_of_row _ _ 1 _ _ _ h.2.1]; rfl
 · rw [cell_of_row _ _ 2 _ _ _ h.2.1]; rfl
 · rw [cell_of_row _ _ 0 _ _ _ h.2.2.1]; rfl
 · rw [cell_of_row _ _ 1 _ _ _ h.2.2.1]; rfl
 · rw [cell_of_row _ _ 2 _ _ _ h.2.2.1]; rfl
 · rw [cell_of_row _ _ 3 _ _ _ h.2.2.1]; rfl
 · rw [cell_of_row _ _ 4 _ _ _ h.2.2.1]; rfl
 · rw [cell_of_row _ _ 5 _ _ _ h.2.2.1]; rfl
 · rw [cell_of_row _ _ 0 _ _ _ h.2.2.2.1]; rfl
 · rw [cell_of_row _ _ 1 _ _ _ h.2.2.2.1]; rfl
 · rw [cell_of_row _ _ 2 _ _ _ h.2.2.2.1]; rfl
 · rw [cell_of_row _ _ 3 _ _ _ h.2.2.2.1]; rfl
 · rw [cell_of_row _ _ 4 _ _ _ h.2.2.2.1]; rfl
 · rw [cell_of_row _ _ 5 _ _ _ h.2.2.2.1]; rfl
 · rw [cell_of_row _ _ 0 _ _ _ h.2.2.2.2.1]; rfl
 · rw [cell_of_row _ _ 1 _ _ _ h.2.2.2.2.1]; rfl
 · rw [cell_of_row _ _ 2 _ _ _ h.2.2.2.2.1]; rfl
theorem ks_drew (h : TS x y ea eb (w.heap.size) w g #[.slice a1 n1 a1', .slice a2 n2 a2', .slice a3 n3 a3'] #[.slice b1 m1 b1', .slice b2 m2 b2', .slice b3 m3 b3'] #[.int .u8 kA, .int .u8 oA, .int .i64 wdA, .string nmA, .slice kaA knA kcA, .int .i64 psA] #[.int .u8 kB, .int .u8 oB, .int .i64 wdB, .string nmB, .slice kaB knB kcB, .int .i64 psB] #[.slice s1 n1 s1', .slice s2 n2 s2', .slice s3 n3 s3'] W) : KS x y ea eb w g a1 a2 a3 b1 b2 b3 s1 s2 s3 kaA kaB n1 n2 n3 m1 m2 m3 a1' a2' a3' b1' b2' b3' s1' s2' s3' knA knB kcA kcB kA oA wdA psA kB oB wdB psB nmA nmB W.drew := ks_of (ts_below h (below_drewN (Below.refl _ W) 1))
theorem ks_below (h : KS x y ea eb w g a1 a2 a3 b1 b2 b3 s1 s2 s3 kaA kaB n1 n2 n3 m1 m2 m3 a1' a2' a3' b1' b2' b3' s1' s2' s3' knA knB kcA kcB kA oA wdA psA kB oB wdB psB nmA nmB W) (hb : Below W.heap.size W W') : KS x y ea eb w g a1 a2 a3 b1 b2 b3 s1 s2 s3 kaA kaB n1 n2 n3 m1 m2 m3 a1' a2' a3' b1' b2' b3' s1' s2' s3' knA knB kcA kcB kA oA wdA psA kB oB wdB psB nmA nmB W' := ks_of (ts_below h.2.2.2.2.2.2.2.2.2.2.2.2.2.2.2.2.2.2.2.2.2 hb)
theorem ks_out (h : KS x y ea eb w g a1 a2 a3 b1 b2 b3 s1 s2 s3 kaA kaB n1 n2 n3 m1 m2 m3 a1' a2' a3' b1' b2' b3' s1' s2' s3' knA knB kcA kcB kA oA wdA psA kB oB wdB psB nmA nmB W) : TS x y ea eb (w.heap.size) w g #[.slice a1 n1 a1', .slice a2 n2 a2', .slice a3 n3 a3'] #[.slice b1 m1 b1', .slice b2 m2 b2', .slice b3 m3 b3'] #[.int .u8 kA, .int .u8 oA, .int .i64 wdA, .string nmA, .slice kaA knA kcA, .int .i64 psA] #[.int .u8 kB, .int .u8 oB, .int .i64 wdB, .string nmB, .slice kaB knB kcB, .int .i64 psB] #[.slice s1 n1 s1', .slice s2 n2 s2', .slice s3 n3 s3'] W := h.2.2.2.2.2.2.2.2.2.2.2.2.2.2.2.2.2.2.2.2.2
end
theorem trees_walk (x y : Pg) (ea eb : Ex) (okx : okP x) (oky : okP y) (oka : okE ea) (fx : fitP x) (dx : dpT x.threads ≤ 1073741824) {v1 v2 v3 v4 : Value} {w : World} (hx : pA w x v1) (hy : pA w y v2) (ha : exA w ea v3) (hb : exA w eb v4) (TT : LTabs w ∧ Tabs w) :
 Calls Tryz.prog 4 #[v1, v2, v3, v4] w fun e w' => e = .returned (.bool true) ∧ Below w.heap.size w w' := by
 have HCP : Hid (∀ W v, pA W x v → Calls Tryz.prog 11 #[v] W fun e w' => (∃ s1 s1' s2 s2' s3 s3', e = .returned (.agg #[.slice s1 x.shared.length s1', .slice s2 x.locks.length s2', .slice s3 x.threads.length s3']) ∧ pA w' x (.agg #[.slice s1 x.shared.length s1', .slice s2 x.locks.length s2', .slice s3 x.threads.length s3'])) ∧ Below W.heap.size W w') := fun W v h => p_Copy x fx h
 have HSZ : Hid (∀ W v, pA W x v → Calls Tryz.prog 12 #[v] W fun e w' => e = .returned (.tuple #[.int .i64 (wrap64 (szTN x.threads)), .int .i64 (wrap64 (szTK x.threads))]) ∧ Below W.heap.size W w') := fun W v h => p_Size x okx h
 have HSR : Hid (∀ W v, pA W x v → Calls Tryz.prog 13 #[v] W fun e w' => e = .returned (.tuple #[.int .i64 (wrap64 (szTN x.threads)), .int .i64 (wrap64 (szTK x.threads))]) ∧ Below W.heap.size W w') := fun W v h => r_Size x okx h
 have HDP : Hid (∀ W v, pA W x v → Calls Tryz.prog 18 #[v] W fun e w' => e = .returned (.int .i64 (dpT x.threads)) ∧ Below W.heap.size W w') := fun W v h => p_Deep x okx dx h
 have HDR : Hid (∀ W v, pA W x v → Calls Tryz.prog 19 #[v] W fun e w' => e = .returned (.int .i64 (dpT x.threads)) ∧ Below W.heap.size W w') := fun W v h => r_Deep x okx dx h
 have HEX : Hid (∀ W v u, pA W x v → pA W x u → Calls Tryz.prog 10 #[v, u] W fun e w' => e = .returned (.bool true) ∧ Below W.heap.size W w') := fun W v u h1 h2 => r_Exactly x okx h1 h2
 have HLV : Hid (∀ W, LTabs W ∧ Tabs W → Calls Tryz.prog 9 #[] W fun e w' => e = .returned (.bool true) ∧ Below W.heap.size W w') := fun W T => p_lives T.1 T.2
 have HSM : Hid (∀ W v u r, pA W x v → (pA W y u ∧ r = samePg x y ∨ pA W x u ∧ r = true) → Calls Tryz.prog 14 #[v, u] W fun e w' => e = .returned (.bool r) ∧ Below W.heap.size W w') := fun W v u r h1 h2 => by
  rcases h2 with ⟨h2, rfl⟩ | ⟨h2, rfl⟩
  · exact p_Same x okx y v u W h1 h2
  · rw [← samePg_refl x]; exact p_Same x okx x v u W h1 h2
 have HRM : Hid (∀ W v u, pA W x v → pA W y u → Calls Tryz.prog 15 #[v, u] W fun e w' => e = .returned (.bool (samePg x y)) ∧ Below W.heap.size W w') := fun W v u h1 h2 => r_SameG x okx y h1 h2
 have HSE : Hid (∀ W v u, exA W ea v → exA W eb u → Calls Tryz.prog 16 #[v, u] W fun e w' => e = .returned (.bool (sameE ea eb)) ∧ Below W.heap.size W w') := fun W v u h1 h2 => p_same ea oka eb v u W h1 h2
 have HRE : Hid (∀ W v u, exA W ea v → exA W eb u → Calls Tryz.prog 17 #[v, u] W fun e w' => e = .returned (.bool (sameE ea eb)) ∧ Below W.heap.size W w') := fun W v u h1 h2 => r_same ea oka eb v u W h1 h2
 generalize samePg x y = bp at HSM HRM
 generalize sameE ea eb = be at HSE HRE
 generalize wrap64 (szTN x.threads) = zn at HSZ HSR
 generalize wrap64 (szTK x.threads) = zk at HSZ HSR
 generalize dpT x.threads = dd at HDP HDR
 have h1b : (bp == bp) = true := by simp
 have h2b : (be == be) = true := by simp
 have h3b : (zn == zn) = true := by simp
 have h4b : (zk == zk) = true := by simp
 have h5b : (dd == dd) = true := by simp
 have HX := Lib.hid hx
 have HY := Lib.hid hy
 have HA := Lib.hid ha
 have HBx := Lib.hid hb
 have HT := Lib.hid TT
 obtain ⟨a1, a1', a2, a2', a3, a3', rfl, _⟩ := hx
 obtain ⟨b1, b1', b2, b2', b3, b3', rfl, _⟩ := hy
 obtain ⟨kaA, kcA, rfl, _⟩ := ha
 obtain ⟨kaB, kcB, rfl, _⟩ := hb
 clear okx oky oka fx dx TT
 generalize ea.kind = kA, ea.op = oA, ea.wd = wdA, ea.name = nmA, ea.kids.length = knA, ea.pos = psA at *
 generalize eb.kind = kB, eb.op = oB, eb.wd = wdB, eb.name = nmB, eb.kids.length = knB, eb.pos = psB at *
 obtain ⟨n1, hn1⟩ : ∃ n, n = x.shared.length := ⟨_, rfl⟩
 obtain ⟨n2, hn2⟩ : ∃ n, n = x.locks.length := ⟨_, rfl⟩
 obtain ⟨n3, hn3⟩ : ∃ n, n = x.threads.length := ⟨_, rfl⟩
 obtain ⟨m1, hm1⟩ : ∃ n, n = y.shared.length := ⟨_, rfl⟩
 obtain ⟨m2, hm2⟩ : ∃ n, n = y.locks.length := ⟨_, rfl⟩
 obtain ⟨m3, hm3⟩ : ∃ n, n = y.threads.length := ⟨_, rfl⟩
 rw [← hn1, ← hn2, ← hn3] at HX HCP ⊢
 rw [← hm1, ← hm2, ← hm3] at HY ⊢
 clear hn1 hn2 hn3 hm1 hm2 hm3
 obtain ⟨W0, hW0⟩ : ∃ W, W = (((w.alloc (.cells #[.slice a1 n1 a1', .slice a2 n2 a2', .slice a3 n3 a3'] 25)).alloc (.cells #[.slice b1 m1 b1', .slice b2 m2 b2', .slice b3 m3 b3'] 25)).alloc (.cells #[.int .u8 kA, .int .u8 oA, .int .i64 wdA, .string nmA, .slice kaA knA kcA, .int .i64 psA] 38)).alloc (.cells #[.int .u8 kB, .int .u8 oB, .int .i64 wdB, .string nmB, .slice kaB knB kcB, .int .i64 psB] 38) := ⟨_, rfl⟩
 have hbel : Below w.heap.size w W0 := by
  rw [hW0]
  exact ((((Below.refl _ w).alloc (Nat.le_refl _) _).alloc (by rw [World.size_alloc]; omega) _).alloc (by simp only [World.size_alloc]; omega) _).alloc (by simp only [World.size_alloc]; omega) _
 have O1 : Own W0 w.heap.size 25 #[.slice a1 n1 a1', .slice a2 n2 a2', .slice a3 n3 a3'] := by rw [hW0]; exact (((Own.new w 25 #[.slice a1 n1 a1', .slice a2 n2 a2', .slice a3 n3 a3']).alloc _).alloc _).alloc _
 have O2 : Own W0 (w.heap.size + 1) 25 #[.slice b1 m1 b1', .slice b2 m2 b2', .slice b3 m3 b3'] := by
  rw [hW0]; have := ((Own.new (w.alloc (.cells #[.slice a1 n1 a1', .slice a2 n2 a2', .slice a3 n3 a3'] 25)) 25 #[.slice b1 m1 b1', .slice b2 m2 b2', .slice b3 m3 b3']).alloc (.cells #[.int .u8 kA, .int .u8 oA, .int .i64 wdA, .string nmA, .slice kaA knA kcA, .int .i64 psA] 38)).alloc (.cells #[.int .u8 kB, .int .u8 oB, .int .i64 wdB, .string nmB, .slice kaB knB kcB, .int .i64 psB] 38)
  rw [World.size_alloc] at this; exact this
 have OA : Own W0 (w.heap.size + 1 + 1) 38 #[.int .u8 kA, .int .u8 oA, .int .i64 wdA, .string nmA, .slice kaA knA kcA, .int .i64 psA] := by
  rw [hW0]; have := (Own.new ((w.alloc (.cells #[.slice a1 n1 a1', .slice a2 n2 a2', .slice a3 n3 a3'] 25)).alloc (.cells #[.slice b1 m1 b1', .slice b2 m2 b2', .slice b3 m3 b3'] 25)) 38 #[.int .u8 kA, .int .u8 oA, .int .i64 wdA, .string nmA, .slice kaA knA kcA, .int .i64 psA]).alloc (.cells #[.int .u8 kB, .int .u8 oB, .int .i64 wdB, .string nmB, .slice kaB knB kcB, .int .i64 psB] 38)
  rw [World.size_alloc, World.size_alloc] at this; exact this
 have OB : Own W0 (w.heap.size + 1 + 1 + 1) 38 #[.int .u8 kB, .int .u8 oB, .int .i64 wdB, .string nmB, .slice kaB knB kcB, .int .i64 psB] := by
  rw [hW0]; have := Own.new (((w.alloc (.cells #[.slice a1 n1 a1', .slice a2 n2 a2', .slice a3 n3 a3'] 25)).alloc (.cells #[.slice b1 m1 b1', .slice b2 m2 b2', .slice b3 m3 b3'] 25)).alloc (.cells #[.int .u8 kA, .int .u8 oA, .int .i64 wdA, .string nmA, .slice kaA knA kcA, .int .i64 psA] 38)) 38 #[.int .u8 kB, .int .u8 oB, .int .i64 wdB, .string nmB, .slice kaB knB kcB, .int .i64 psB]
  rw [World.size_alloc, World.size_alloc, World.size_alloc] at this; exact this
 have T0 : Hid (LTabs W0 ∧ Tabs W0) := ⟨HT.out.1.below (Nat.le_refl _) hbel, HT.out.2.below (Nat.le_refl _) hbel⟩
 replace HX := Lib.hid (pA_below HX.out hbel)
 replace HY := Lib.hid (pA_below HY.out hbel)
 replace HA := Lib.hid (exA_below HA.out hbel)
 replace HBx := Lib.hid (exA_below HBx.out hbel)
 have HB0 := Lib.hid hbel
 replace O2 := Lib.hid O2
 replace OA := Lib.hid OA
 replace OB := Lib.hid OB
 have HO1 := Lib.hid O1
 clear hbel HT
 have HW0 := Lib.hid hW0
 clear hW0
 go_enter Tryz.func4, Tryz.ntmps4
 go_upto_region 1 with (fail)
 rw [← HW0.out]
 clear HW0
 go_wp2_with (first | (refine ld rowPg rfl rfl rfl O1 rfl ?_))
 go_at_call 11
 refine (HCP.out _ _ HX.out).mono ?_
 rintro e w1 ⟨⟨s1, s1', s2, s2', s3, s3', rfl, hxc⟩, hb1⟩
 have hal : Below w1.heap.size w1 (w1.alloc (.cells zPg 25)) := (Below.refl _ w1).alloc (Nat.le_refl _) _
 have hr1 := Below.of_row hal (Nat.le_refl _) #[.slice s1 n1 s1', .slice s2 n2 s2', .slice s3 n3 s3']
 have Z1 := Own.new w1 25 zPg
 have hbb := hb1.trans (hr1.mono hb1.size)
 have TS0 : Hid (TS x y ea eb (w.heap.size) w w1.heap.size #[.slice a1 n1 a1', .slice a2 n2 a2', .slice a3 n3 a3'] #[.slice b1 m1 b1', .slice b2 m2 b2', .slice b3 m3 b3'] #[.int .u8 kA, .int .u8 oA, .int .i64 wdA, .string nmA, .slice kaA knA kcA, .int .i64 psA] #[.int .u8 kB, .int .u8 oB, .int .i64 wdB, .string nmB, .slice kaB knB kcB, .int .i64 psB] #[.slice s1 n1 s1', .slice s2 n2 s2', .slice s3 n3 s3'] ((w1.alloc (.cells zPg 25)).setRow w1.heap.size #[.slice s1 n1 s1', .slice s2 n2 s2', .slice s3 n3 s3'])) :=
  ⟨HO1.out.below hbb, O2.out.below hbb, OA.out.below hbb, OB.out.below hbb, Z1.row #[.slice s1 n1 s1', .slice s2 n2 s2', .slice s3 n3 s3'], pA_below HX.out hbb, pA_below HY.out hbb, exA_below HA.out hbb, exA_below HBx.out hbb, pA_below hxc hr1, ⟨T0.out.1.below (Nat.le_refl _) hbb, T0.out.2.below (Nat.le_refl _) hbb⟩, HB0.out.trans (hbb.mono HB0.out.size)⟩
 clear hbb hr1 hal hb1 hxc HX HY HA HBx HO1 O1 O2 OA OB HB0 T0
 unfold zPg at Z1
 go_upto_region 2 with (first | (refine st rowPg rfl rfl Z1 rfl rfl (by rfl) (by rfl) (by kernel_rfl) ?_))
 rw [show (#[.slice none 0 0, .slice none 0 0, .slice none 0 0] : Array Value) = zPg from rfl]
 clear Z1
 obtain ⟨W2, hW2⟩ : ∃ W, W = (w1.alloc (.cells zPg 25)).setRow w1.heap.size #[.slice s1 n1 s1', .slice s2 n2 s2', .slice s3 n3 s3'] := ⟨_, rfl⟩
 rw [← hW2] at TS0 ⊢
 clear hW2
 generalize w1.heap.size = g at TS0 ⊢
 have O1 := TS0.out.1
 go_wp2_with (first | (refine ld rowPg rfl rfl rfl O1 rfl ?_))
 go_at_call 12
 refine (HSZ.out _ _ TS0.out.2.2.2.2.2.1).mono ?_
 rintro e W3 ⟨rfl, hb⟩
 have TS1 := Lib.hid (ts_below TS0.out hb)
 clear hb TS0 O1
 have O1 := TS1.out.1
 go_wp2_with (first | (refine ld rowPg rfl rfl rfl O1 rfl ?_))
 go_at_call 13
 refine (HSR.out _ _ TS1.out.2.2.2.2.2.1).mono ?_
 rintro e W4 ⟨rfl, hb⟩
 have TS2 := Lib.hid (ts_below TS1.out hb)
 clear hb TS1 O1 HCP HSZ HSR
 have H9 : Hid (∀ W, KS x y ea eb w g a1 a2 a3 b1 b2 b3 s1 s2 s3 kaA kaB n1 n2 n3 m1 m2 m3 a1' a2' a3' b1' b2' b3' s1' s2' s3' knA knB kcA kcB kA oA wdA psA kB oB wdB psB nmA nmB W → Calls Tryz.prog 9 #[] W fun e w' => e = .returned (.bool true) ∧ Below W.heap.size W w') := fun W h => HLV.out W (ks_out h).2.2.2.2.2.2.2.2.2.2.1
 have H10 : Hid (∀ W, KS x y ea eb w g a1 a2 a3 b1 b2 b3 s1 s2 s3 kaA kaB n1 n2 n3 m1 m2 m3 a1' a2' a3' b1' b2' b3' s1' s2' s3' knA knB kcA kcB kA oA wdA psA kB oB wdB psB nmA nmB W → Calls Tryz.prog 10 #[.agg #[.slice s1 n1 s1', .slice s2 n2 s2', .slice s3 n3 s3'], .agg #[.slice a1 n1 a1', .slice a2 n2 a2', .slice a3 n3 a3']] W fun e w' => e = .returned (.bool true) ∧ Below W.heap.size W w') := fun W h => HEX.out W _ _ (ks_out h).2.2.2.2.2.2.2.2.2.1 (ks_out h).2.2.2.2.2.1
 have H14 : Hid (∀ W u r, KS x y ea eb w g a1 a2 a3 b1 b2 b3 s1 s2 s3 kaA kaB n1 n2 n3 m1 m2 m3 a1' a2' a3' b1' b2' b3' s1' s2' s3' knA knB kcA kcB kA oA wdA psA kB oB wdB psB nmA nmB W → (u = .agg #[.slice b1 m1 b1', .slice b2 m2 b2', .slice b3 m3 b3'] ∧ r = bp ∨ u = .agg #[.slice a1 n1 a1', .slice a2 n2 a2', .slice a3 n3 a3'] ∧ r = true) → Calls Tryz.prog 14 #[.agg #[.slice a1 n1 a1', .slice a2 n2 a2', .slice a3 n3 a3'], u] W fun e w' => e = .returned (.bool r) ∧ Below W.heap.size W w') := fun W u r h hu => by
  rcases hu with ⟨rfl, rfl⟩ | ⟨rfl, rfl⟩
  · exact HSM.out W _ _ _ (ks_out h).2.2.2.2.2.1 (.inl ⟨(ks_out h).2.2.2.2.2.2.1, rfl⟩)
  · exact HSM.out W _ _ _ (ks_out h).2.2.2.2.2.1 (.inr ⟨(ks_out h).2.2.2.2.2.1, rfl⟩)
 have H15 : Hid (∀ W, KS x y ea eb w g a1 a2 a3 b1 b2 b3 s1 s2 s3 kaA kaB n1 n2 n3 m1 m2 m3 a1' a2' a3' b1' b2' b3' s1' s2' s3' knA knB kcA kcB kA oA wdA psA kB oB wdB psB nmA nmB W → Calls Tryz.prog 15 #[.agg #[.slice a1 n1 a1', .slice a2 n2 a2', .slice a3 n3 a3'], .agg #[.slice b1 m1 b1', .slice b2 m2 b2', .slice b3 m3 b3']] W fun e w' => e = .returned (.bool bp) ∧ Below W.heap.size W w') := fun W h => HRM.out W _ _ (ks_out h).2.2.2.2.2.1 (ks_out h).2.2.2.2.2.2.1
 have H16 : Hid (∀ W, KS x y ea eb w g a1 a2 a3 b1 b2 b3 s1 s2 s3 kaA kaB n1 n2 n3 m1 m2 m3 a1' a2' a3' b1' b2' b3' s1' s2' s3' knA knB kcA kcB kA oA wdA psA kB oB wdB psB nmA nmB W → Calls Tryz.prog 16 #[.agg #[.int .u8 kA, .int .u8 oA, .int .i64 wdA, .string nmA, .slice kaA knA kcA, .int .i64 psA], .agg #[.int .u8 kB, .int .u8 oB, .int .i64 wdB, .string nmB, .slice kaB knB kcB, .int .i64 psB]] W fun e w' => e = .returned (.bool be) ∧ Below W.heap.size W w') := fun W h => HSE.out W _ _ (ks_out h).2.2.2.2.2.2.2.1 (ks_out h).2.2.2.2.2.2.2.2.1
 have H17 : Hid (∀ W, KS x y ea eb w g a1 a2 a3 b1 b2 b3 s1 s2 s3 kaA kaB n1 n2 n3 m1 m2 m3 a1' a2' a3' b1' b2' b3' s1' s2' s3' knA knB kcA kcB kA oA wdA psA kB oB wdB psB nmA nmB W → Calls Tryz.prog 17 #[.agg #[.int .u8 kA, .int .u8 oA, .int .i64 wdA, .string nmA, .slice kaA knA kcA, .int .i64 psA], .agg #[.int .u8 kB, .int .u8 oB, .int .i64 wdB, .string nmB, .slice kaB knB kcB, .int .i64 psB]] W fun e w' => e = .returned (.bool be) ∧ Below W.heap.size W w') := fun W h => HRE.out W _ _ (ks_out h).2.2.2.2.2.2.2.1 (ks_out h).2.2.2.2.2.2.2.2.1
 have H18 : Hid (∀ W, KS x y ea eb w g a1 a2 a3 b1 b2 b3 s1 s2 s3 kaA kaB n1 n2 n3 m1 m2 m3 a1' a2' a3' b1' b2' b3' s1' s2' s3' knA knB kcA kcB kA oA wdA psA kB oB wdB psB nmA nmB W → Calls Tryz.prog 18 #[.agg #[.slice a1 n1 a1', .slice a2 n2 a2', .slice a3 n3 a3']] W fun e w' => e = .returned (.int .i64 dd) ∧ Below W.heap.size W w') := fun W h => HDP.out W _ (ks_out h).2.2.2.2.2.1
 have H19 : Hid (∀ W, KS x y ea eb w g a1 a2 a3 b1 b2 b3 s1 s2 s3 kaA kaB n1 n2 n3 m1 m2 m3 a1' a2' a3' b1' b2' b3' s1' s2' s3' knA knB kcA kcB kA oA wdA psA kB oB wdB psB nmA nmB W → Calls Tryz.prog 19 #[.agg #[.slice a1 n1 a1', .slice a2 n2 a2', .slice a3 n3 a3']] W fun e w' => e = .returned (.int .i64 dd) ∧ Below W.heap.size W w') := fun W h => HDR.out W _ (ks_out h).2.2.2.2.2.1
 clear HLV HEX HSM HRM HSE HRE HDP HDR
 go_upto_region 4 with (fail)
 go_region_held3 (fun W => W.cell? ⟨w.heap.size, 0, none⟩ = some (.slice a1 n1 a1') ∧ W.cell? ⟨w.heap.size, 1, none⟩ = some (.slice a2 n2 a2') ∧ W.cell? ⟨w.heap.size, 2, none⟩ = some (.slice a3 n3 a3') ∧ W.cell? ⟨(w.heap.size + 1), 0, none⟩ = some (.slice b1 m1 b1') ∧ W.cell? ⟨(w.heap.size + 1), 1, none⟩ = some (.slice b2 m2 b2') ∧ W.cell? ⟨(w.heap.size + 1), 2, none⟩ = some (.slice b3 m3 b3') ∧ W.cell? ⟨(w.heap.size + 1 + 1), 0, none⟩ = some (.int .u8 kA) ∧ W.cell? ⟨(w.heap.size + 1 + 1), 1, none⟩ = some (.int .u8 oA) ∧ W.cell? ⟨(w.heap.size + 1 + 1), 2, none⟩ = some (.int .i64 wdA) ∧ W.cell? ⟨(w.heap.size + 1 + 1), 3, none⟩ = some (.string nmA) ∧ W.cell? ⟨(w.heap.size + 1 + 1), 4, none⟩ = some (.slice kaA knA kcA) ∧ W.cell? ⟨(w.heap.size + 1 + 1), 5, none⟩ = some (.int .i64 psA) ∧ W.cell? ⟨(w.heap.size + 1 + 1 + 1), 0, none⟩ = some (.int .u8 kB) ∧ W.cell? ⟨(w.heap.size + 1 + 1 + 1), 1, none⟩ = some (.int .u8 oB) ∧ W.cell? ⟨(w.heap.size + 1 + 1 + 1), 2, none⟩ = some (.int .i64 wdB) ∧ W.cell? ⟨(w.heap.size + 1 + 1 + 1), 3, none⟩ = some (.string nmB) ∧ W.cell? ⟨(w.heap.size + 1 + 1 + 1), 4, none⟩ = some (.slice kaB knB kcB) ∧ W.cell? ⟨(w.heap.size + 1 + 1 + 1), 5, none⟩ = some (.int .i64 psB) ∧ W.cell? ⟨g, 0, none⟩ = some (.slice s1 n1 s1') ∧ W.cell? ⟨g, 1, none⟩ = some (.slice s2 n2 s2') ∧ W.cell? ⟨g, 2, none⟩ = some (.slice s3 n3 s3') ∧ TS x y ea eb (w.heap.size) w g #[.slice a1 n1 a1', .slice a2 n2 a2', .slice a3 n3 a3'] #[.slice b1 m1 b1', .slice b2 m2 b2', .slice b3 m3 b3'] #[.int .u8 kA, .int .u8 oA, .int .i64 wdA, .string nmA, .slice kaA knA kcA, .int .i64 psA] #[.int .u8 kB, .int .u8 oB, .int .i64 wdB, .string nmB, .slice kaB knB kcB, .int .i64 psB] #[.slice s1 n1 s1', .slice s2 n2 s2', .slice s3 n3 s3'] W) (first | exact ks_drew TS2.out | exact ks_below (by assumption) (by assumption)) (first
  | (go_at_call 9; refine (H9.out _ (by assumption)).mono ?_; rintro e w9 ⟨rfl, hb⟩)
  | (go_at_call 10; refine (H10.out _ (by assumption)).mono ?_; rintro e w9 ⟨rfl, hb⟩)
  | (go_at_call 14; refine (H14.out _ _ _ (by assumption) (by first | exact .inl ⟨rfl, rfl⟩ | exact .inr ⟨rfl, rfl⟩)).mono ?_; rintro e w9 ⟨rfl, hb⟩)
  | (go_at_call 15; refine (H15.out _ (by assumption)).mono ?_; rintro e w9 ⟨rfl, hb⟩)
  | (go_at_call 16; refine (H16.out _ (by assumption)).mono ?_; rintro e w9 ⟨rfl, hb⟩)
  | (go_at_call 17; refine (H17.out _ (by assumption)).mono ?_; rintro e w9 ⟨rfl, hb⟩)
  | (go_at_call 18; refine (H18.out _ (by assumption)).mono ?_; rintro e w9 ⟨rfl, hb⟩)
  | (go_at_call 19; refine (H19.out _ (by assumption)).mono ?_; rintro e w9 ⟨rfl, hb⟩))
 have HF := Lib.hid (ks_out (x := x) (y := y) (ea := ea) (eb := eb) (w := w) (g := g) (by assumption : KS x y ea eb w g a1 a2 a3 b1 b2 b3 s1 s2 s3 kaA kaB n1 n2 n3 m1 m2 m3 a1' a2' a3' b1' b2' b3' s1' s2' s3' knA knB kcA kcB kA oA wdA psA kB oB wdB psB nmA nmB _)).2.2.2.2.2.2.2.2.2.2.2
 go_wp2_with fail
 go_ret
 exact ⟨rfl, HF.out⟩
open Go.ChangeShapes Go.WideShapes Go.ChangeAt Go.WideMaps Go.WideElems Go.RowKit Go.ChangeShapes
set_option linter.unusedVariables false
theorem laidOut : laidOutB Tryz.prog = true := by kernel_rfl
theorem law_post_at {H : Type} {enc : TypeId × Value → H} {P : Program} {f : Func} {s : ChangeSpec} {W W' : World} {args : Array Value} {tb : TypeId} {ds : List (DataW H)} {ps : List MemPlace}
 (hW : DataW.Whole enc P f.params.toList s.vars false W args.toList ds [] ps) (hres : f.resultTypes = #[tb]) (hb : P.underlying tb = some .bool)
 (hvars : s.vars = []) (hfn : (s.fn H (ds ++ [])).results = [.lit (.bool true)]) (hfa : (s.fn H (ds ++ [])).args = ds) (hfv : (s.fn H (ds ++ [])).vars = [])
 (hargs : ∀ sp : Nat → Bool, (∀ p ∈ ps, sp p.block = true) → DataW.TrodAll enc P W' 0 sp true f.params.toList args.toList ds ps)
 (hk : Below W.heap.size W W') : s.post enc P f false true false false W args (.bool true) W' := by
 have hr : ∀ (b : Nat) (sp : Nat → Bool) (hd : Bool), DataW.TrodAll enc P W' b sp hd f.resultTypes.toList ((Value.bool true).resultList f.resultTypes.size) (s.fn H (ds ++ [])).results [] := fun b sp hd => by
  rw [hfn, hres]
  exact trodAll_mk1 (shut_bool hb _)
 have ha : ∀ sp : Nat → Bool, (∀ p ∈ ps, sp p.block = true) → DataW.TrodAll enc P W' 0 sp true f.params.toList args.toList (s.fn H (ds ++ [])).args ps := fun sp hsp => by
  rw [hfa]; exact hargs sp hsp
 have hv : ∀ sp : Nat → Bool, DataW.TrodVars enc P W' sp s.vars (s.fn H (ds ++ [])).vars [] := fun sp => by
  rw [hvars, hfv]; rfl
 have hold : ∀ p ∈ ps, (fun b => decide (b < W.heap.size)) p.block = true := fun p hp => by simpa using hW.lt p hp
 have hW2 := hW
 obtain ⟨_, _, _, _, _, hz, hn⟩ := hW2
 refine ⟨ds, [], ps, [], ps, [], hW, hr _ _ _, ha _ hold, hv _, World.keptBut_mono (fun p hp => ⟨hp, Or.inr (Or.inl hp)⟩) (hk.frame (· ∈ ps)), fun _ => ?_⟩
 refine ⟨ok_one hres rfl (okWide_bool_mk hb _), _, _, ([] ++ ps) ++ [], ⟨[] ++ ps, [], trodAll_append (ha _ (fun _ _ => rfl)) (hr _ _ _), hv _, rfl, ?_, ?_⟩, ?_⟩
 · intro b off hp
   have hp' : MemPlace.cell b off ∈ ps := by simpa using hp
   rw [hk.frozen (p := ⟨b, off, none⟩) (hW.lt _ hp')]
   exact hz b off hp'
 · intro hx; cases hx
 · intro p hp _
   simpa using hp
open Go.ChangeShapes Go.WideShapes Go.ChangeAt Go.WideMaps Go.WideElems Go.RowKit
set_option linter.unusedVariables false
abbrev PL : List (String × DataW Unit) := [("stile/words.levels", Rows.laid_stile_words_levels), ("stile/words.signs", Rows.laid_stile_words_signs), ("stile/lexer.languageWords", Rows.laid_stile_lexer_languageWords), ("stile/lexer.longSigns", Rows.laid_stile_lexer_longSigns)]
theorem both_of_laid {W : World} (h : laidMetH Tryz.prog PL W) : LTabs W ∧ Tabs W := by
 rw [MakeChecks.laidMetH_plain _ _ _ (by kernel_rfl)] at h
 obtain ⟨ps, h, _⟩ := h
 exact ⟨ltabs_of_vars h (by simp) (by simp), tabs_of_vars h (by simp) (by simp)⟩
theorem pdoor_met (os : Os) (args : Array Value) : laidMetH Tryz.prog PL ((World.doorLaid Tryz.prog 400 os).forCall (fun _ _ => 0) ⟨#[], args, []⟩).memory :=
 laidMetH_of_parts3 (fuel := 8) (laidMet_of_run' 8 (by kernel_rfl) (by kernel_rfl)) (by kernel_rfl) (by kernel_rfl)
end Go.Proofs.YtikaflpiephaiaaGreatDoor

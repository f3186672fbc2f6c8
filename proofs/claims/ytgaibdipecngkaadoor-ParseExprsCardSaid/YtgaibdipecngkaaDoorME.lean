/- The proof, part 5: texts that belong together, in one. -/
import Derived.Test.YtgaibdipecngkaaDoorMD
import Derived.Deep.RegionWith
import Derived.Deep.QuietTactic
import Derived.BigQuiet
import Derived.Deep.Draws
import Derived.StillTailTactics
import Derived.Deep.LoopGhost
namespace Go.Proofs.YtgaibdipecngkaaDoor
open Go.RowKit
set_option linter.unusedVariables false
theorem res3 {fn : Func} {T U V : TypeId} {i j k : Tmp} (h : fn.results = #[.cell i T, .cell j U, .cell k V]) {tmps : Array Value} {P : Program} {w : World} {a b d : Addr} {x y z : Value} (ha : tmps.getD i undef = .pointer (some a)) (hb : tmps.getD j undef = .pointer (some b)) (hd : tmps.getD k undef = .pointer (some d))
    (h1 : (loadVar T a).run P w = .ok x w) (h2 : (loadVar U b).run P w = .ok y w) (h3 : (loadVar V d).run P w = .ok z w) : (results fn tmps).run P w = .ok (.tuple #[x, y, z]) w := by
  have ha' : tmps[i]?.getD undef = .pointer (some a) := by simpa using ha
  have hb' : tmps[j]?.getD undef = .pointer (some b) := by simpa using hb
  have hd' : tmps[k]?.getD undef = .pointer (some d) := by simpa using hd
  simp [results, h, ha', hb', hd', asAddr, h1, h2, h3, Result.andThen]
theorem res2 {fn : Func} {T V : TypeId} {i j k : Tmp} (h : fn.results = #[.cell i T, .tmp j, .cell k V]) {tmps : Array Value} {P : Program} {w : World} {a d : Addr} {x y z : Value} (ha : tmps.getD i undef = .pointer (some a)) (hb : tmps.getD j undef = y) (hd : tmps.getD k undef = .pointer (some d))
    (h1 : (loadVar T a).run P w = .ok x w) (h3 : (loadVar V d).run P w = .ok z w) : (results fn tmps).run P w = .ok (.tuple #[x, y, z]) w := by
  have ha' : tmps[i]?.getD undef = .pointer (some a) := by simpa using ha
  have hb' : tmps[j]?.getD undef = y := by simpa using hb
  have hd' : tmps[k]?.getD undef = .pointer (some d) := by simpa using hd
  simp [results, h, ha', hb', hd', asAddr, h1, h3, Result.andThen]
theorem lv_row {w : World} {g : Nat} {T : TypeId} {n : Nat} (hT : RowT T n) {cs : Array Value} (h : Own w g T cs) (hn : cs.size = n) : (loadVar T ⟨g, 0, none⟩).run Tryd.prog w = .ok (.agg cs) w := by
  obtain ⟨d, h1, h2, h3⟩ := hT
  exact run_loadVar_row w g T T cs (0, 0) d h h1 (by cases d <;> first | rfl | cases h2) (by rw [h3, hn])
set_option maxHeartbeats 1000000 in
theorem lv_err {w : World} {g : Nat} {z : Int} (h : Own w g 27 #[.int .i64 z]) : (loadVar 27 ⟨g, 0, none⟩).run Tryd.prog w = .ok (.int .i64 z) w := by
  have hc : w.cell? ⟨g, 0, none⟩ = some (.int .i64 z) := by rw [cell_of_row w g 0 _ _ _ h]; rfl
  go_simp
def endR {α : Type} : PR α → Option α × Int × Int × Int
  | .ok a _ => (some a, 0, 0, 0)
  | .bad p q => (none, 30, p, q)
/-- What is said of a text: a tree or none, the error, the place and the rule of the fault. -/
def wholeR {α : Type} (f : Int → List Tk → PR α) (s : ByteArray) : Option α × Int × Int × Int :=
  if 65536 < s.size then (none, 4, 0, 0) else if ¬ (frontR s).2.2 = 0 then (none, 30, (frontR s).2.1, 1) else
    endR (endP (f s.size ((scanX s).1.map Res.tk)))
def WhPost {α : Type} (w : World) (zero : Array Value) (V : Nat → α → Value → World → Prop) (r : Option α × Int × Int × Int) (e : Ending) (w' : World) : Prop :=
  Below w.heap.size w w' ∧ ∃ v, e = .returned (.tuple #[v, .int .i64 r.2.1, .agg #[.int .i64 r.2.2.1, .int .i64 r.2.2.2]]) ∧ match r.1 with | none => v = .agg zero | some a => V w.heap.size a v w'
theorem exR_stays {n m : Nat} {e : Ex} {v : Value} {w w' : World} (h : exR n e v w) (hs : Stays (fun b => n ≤ b) w w') (hm : m ≤ n) : exR m e v w' := by
  obtain ⟨a, cap, h1, h2⟩ := h
  exact ⟨a, cap, h1, exsAt_stays hs (fun b hb => Nat.le_trans hm hb) h2⟩
theorem pgR_stays {n m : Nat} {e : Pg} {v : Value} {w w' : World} (h : pgR n e v w) (hs : Stays (fun b => n ≤ b) w w') (hm : m ≤ n) : pgR m e v w' := by
  obtain ⟨a1, c1, a2, c2, a3, c3, h0, h1, h2, h3⟩ := h
  exact ⟨a1, c1, a2, c2, a3, c3, h0, dcsAt_stays hs (fun b hb => Nat.le_trans hm hb) h1, dcsAt_stays hs (fun b hb => Nat.le_trans hm hb) h2, thsAt_stays hs (fun b hb => Nat.le_trans hm hb) h3⟩
theorem fr_below {c : Par} {n : Nat} {w w' : World} (h : Fr c w w') (hX : n ≤ c.X) (hn : n ≤ w.heap.size) : Below n w w' := by
  refine ⟨Keep.os h, Keep.tape h, Keep.output h, Keep.size h, fun k hk => ?_⟩
  rw [Array.getElem?_eq_getElem (by omega : k < w.heap.size)]
  exact h.block (Array.getElem?_eq_getElem (by omega)) (by omega)
/-- Another block is set. -/
theorem Rd.setRow {c : Par} {w : World} {k : Nat} (R : Rd c w k) {g : Nat} (cs : Array Value) (h : g ≠ c.X ∧ g ≠ c.D ∧ g ≠ c.S ∧ g ≠ c.O ∧ g ≠ c.bm ∧ g ≠ c.bm + 1 ∧ g ≠ c.bn ∧ g ≠ c.bn + 1) (ht : ∀ b off, c.ta = some ⟨b, off, none⟩ → b ≠ g) (hg : 1 ≠ g ∧ 0 ≠ g) : Rd c (w.setRow g cs) k := by
  have k0 : ∀ b, b ≠ g → (w.setRow g cs).heap[b]? = w.heap[b]? := fun b hb => setRow_other cs hb
  have k1 : ∀ b o, b ≠ g → (w.setRow g cs).cell? ⟨b, o, none⟩ = w.cell? ⟨b, o, none⟩ := fun b o hb => by simp only [World.cell?, k0 b hb]
  obtain ⟨⟨tok, tne, dm, sm, om, b1, b2, b3, b4, ne, T, gne, small⟩, pos, le⟩ := R
  obtain ⟨h1, h2, h3, h4, h5, h6, h7, h8⟩ := h
  refine ⟨⟨?_, tne, (k0 _ h2.symm).trans dm, (k0 _ h3.symm).trans sm, (k0 _ h4.symm).trans om, (k0 _ h5.symm).trans b1, (k0 _ h6.symm).trans b2, (k0 _ h7.symm).trans b3, (k0 _ h8.symm).trans b4, ne, ?_, gne, small⟩, (k0 _ h1.symm).trans pos, le⟩
  · obtain ⟨oa, cap, hu, hc⟩ := tok
    refine ⟨oa, cap, hu, fun i x hx => ?_⟩
    obtain ⟨b, off, ho, a0, a1, a2, a3⟩ := hc i x hx
    obtain ⟨rfl, _, _⟩ : c.ta = oa ∧ c.toks.length = c.toks.length ∧ c.cap = cap := by cases hu; exact ⟨rfl, rfl, rfl⟩
    have hb := ht b off ho
    exact ⟨b, off, ho, (k1 _ _ hb).trans a0, (k1 _ _ hb).trans a1, (k1 _ _ hb).trans a2, (k1 _ _ hb).trans a3⟩
  · have s1 := T.size1
    have s2 := T.size2
    exact ⟨by rw [size_setRow]; exact s1, by rw [size_setRow]; exact s2, fun i hi => (k1 _ _ hg.1).trans (T.lev i hi), fun i hi => (k1 _ _ hg.2).trans (T.sgn i hi)⟩
theorem leaves_tmps {P : Program} {fn : Func} {R : Ending → World → Prop} {t1 t2 : Array Value} (h : results fn t1 = results fn t2) : ∀ (ds : List Deferred) (u : FrameMode) (w : World), Leaves P fn t1 R ds u w → Leaves P fn t2 R ds u w
  | [], .returning, w, k => by
    obtain ⟨v, h1, h2⟩ := k
    exact ⟨v, by rw [← h]; exact h1, h2⟩
  | [], .panicking c, w, k => k
  | [], .run, w, k => k
  | d :: ds, u, w, k => by
    obtain ⟨h1, fv, cap, f, args, h2, h3, h4⟩ := k
    refine ⟨h1, fv, cap, f, args, h2, h3, h4.mono fun e u' w' he => ?_⟩
    cases e with
    | returned v => exact leaves_tmps h ds _ _ he
    | panicked c => exact leaves_tmps h ds _ _ he
    | outgrown => exact he
theorem post_put {P : Program} {fn : Func} {R : Ending → World → Prop} {i j k d : Nat} {T U V : TypeId} (h : fn.results = #[.cell i T, .cell j U, .cell k V]) (hd : d ≠ i ∧ d ≠ j ∧ d ≠ k) (c : List PanicEntry) (a : Act) (w : World) (v : Value) (hq : bodyPostD P fn R (.panic c) (a.put (some d) v) w) : bodyPostD P fn R (.panic c) a w := by
  have e : results fn (a.put (some d) v).tmps = results fn a.tmps := by
    unfold results
    rw [h]
    simp only [Act.put]
    simp [Array.getElem?_setIfInBounds, hd.1, hd.2.1, hd.2.2]
  exact leaves_tmps e _ _ _ hq
theorem scan_long {s : ByteArray} (h : 65536 < s.size) : scanX s = ([], 4, 0, 0) := by unfold scanX; rw [if_pos h]
theorem scan_lex {s : ByteArray} (h : ¬ 65536 < s.size) (hf : ¬ (frontR s).2.2 = 0) : scanX s = ([], 20, (frontR s).2.1, (frontR s).2.2) := by unfold scanX; rw [if_neg h, if_neg hf]
theorem scan_toks {s : ByteArray} (h : ¬ 65536 < s.size) (hf : (frontR s).2.2 = 0) : scanX s = ((frontR s).1, 0, 0, 0) := by unfold scanX; rw [if_neg h, if_pos hf]
theorem run_ld_err {o : Oper} {a : Act} {w : World} {x : Operand} (ho : o.op = .load 27 x) {g : Nat} (hx : a.eval x = .pointer (some ⟨g, 0, none⟩)) {z : Int} (hg : Own w g 27 #[.int .i64 z]) : (execOp a.eval o).run Tryd.prog w = .ok (.value (.int .i64 z)) w := by
  have hc : w.cell? ⟨g, 0, none⟩ = some (.int .i64 z) := by rw [cell_of_row w g 0 _ _ _ hg]; rfl
  unfold execOp
  simp only [ho, hx]
  go_simp
theorem run_ld_int {o : Oper} {a : Act} {w : World} {x : Operand} (ho : o.op = .load 3 x) {p : Addr} (hx : a.eval x = .pointer (some p)) {v : Value} (hc : w.cell? p = some v) : (execOp a.eval o).run Tryd.prog w = .ok (.value v) w := by
  unfold execOp
  simp only [ho, hx]
  go_simp
set_option maxHeartbeats 1000000 in
theorem wp_st_errv {o : Oper} {a : Act} {w : World} {K : Act → World → Prop} {Q : Exit → Act → World → Prop} {x y : Operand} {z u : Int} (ho : o.op = .store 27 x y) {p : Addr} (hx : a.eval x = .pointer (some p)) (hy : a.eval y = .int .i64 z) (hu : w.cell? p = some (.int .i64 u)) (hf : w.frozen? p = false) (h : K (a.put o.dst undef) (w.setCell p (.int .i64 z))) : o.wp Tryd.prog a w K Q := by
  have hrun : (execOp a.eval o).run Tryd.prog w = .ok .skip (w.setCell p (.int .i64 z)) := by
    unfold execOp
    simp only [ho, hx, hy]
    go_simp
  unfold Oper.wp
  rw [hrun]
  exact h
set_option maxRecDepth 100000 in
set_option maxHeartbeats 1000000 in
theorem idle_E (x y z : Value) (w : World) : CallsD Tryd.prog 18 #[x, y, z] .returning w fun e u' w' => e = .returned (.tuple #[]) ∧ u' = .returning ∧ w' = w := by
  have hnil := any_nil
  refine callsD_of_wpS Tryd.func18 rfl fun c₀ cs hu => ?_
  apply wpS_seq
  apply wpS_region
  simp [wpOpsS, go_sem, recoverD, hu, Tryd.ntmps18, Exit.thenS]
  rw [show (#[x, y, z] ++ (((Array.replicate 17 undef).setIfInBounds 4 .nilIface).setIfInBounds 0 .nilIface) : Array Value) = #[x, y, z, .nilIface, undef, undef, undef, .nilIface, undef, undef, undef, undef, undef, undef, undef, undef, undef, undef, undef, undef] from by kernel_rfl]
  refine wpS_of_wp ?_
  generalize hQ : (fun e a' w' => bodyPostS _ _ _ _ _ e a' _ w') = Q
  go_wp2
  subst hQ
  cases c₀
  simp_all [bodyPostS, results, Tryd.results18]
set_option maxRecDepth 100000 in
set_option maxHeartbeats 8000000 in
theorem wh_long_E (s : ByteArray) {w : World} (T : LTabs w) (TW : Tabs w) (hl : 65536 < s.size) :
    Calls Tryd.prog 9 #[.string s, .func (.func 10) #[] #[]] w (WhPost w zEx exR (wholeR (fun L ts => binE fnd L (fuel ts) 1 0 ts) s)) := by
  obtain ⟨R, hR⟩ : ∃ R, R = wholeR (fun L ts => binE fnd L (fuel ts) 1 0 ts) s := ⟨_, rfl⟩
  rw [← hR]
  have HR : Hid (R = (none, 4, 0, 0)) := by rw [Hid, hR]; unfold wholeR; rw [if_pos hl]
  clear hR
  have HT := Lib.hid (And.intro T TW)
  have HSC : Hid (∀ W, LTabs W → Calls Tryd.prog 17 #[.string s] W fun e w' => ∃ u, e = .returned (.tuple #[u, .int .i64 4, .agg #[.int .i64 0, .int .i64 0]]) ∧ w'.ownsRow W.heap.size 69 4 u (scanX s).1.length (rowR (scanX s).1) ∧ (u = .slice none 0 0 ↔ (scanX s).1 = []) ∧ Below W.heap.size W w') := fun W TW => by have := scan_row s TW; rw [scan_long hl] at this ⊢; exact this
  have O1 := ((Own.new w 26 zEx).alloc (.cells #[.int .i64 0] 27)).alloc (.cells #[.int .i64 0, .int .i64 0] 29)
  have O2 := (Own.new (w.alloc (.cells zEx 26)) 27 #[.int .i64 0]).alloc (.cells #[.int .i64 0, .int .i64 0] 29)
  have O3 := Own.new ((w.alloc (.cells zEx 26)).alloc (.cells #[.int .i64 0] 27)) 29 #[.int .i64 0, .int .i64 0]
  have B0 : Below w.heap.size w (((w.alloc (.cells zEx 26)).alloc (.cells #[.int .i64 0] 27)).alloc (.cells #[.int .i64 0, .int .i64 0] 29)) := (((Below.refl _ w).alloc (Nat.le_refl _) _).alloc (by simp only [World.size_alloc]; omega) _).alloc (by simp only [World.size_alloc]; omega) _
  have z0 : Hid ((((w.alloc (.cells zEx 26)).alloc (.cells #[.int .i64 0] 27)).alloc (.cells #[.int .i64 0, .int .i64 0] 29)).heap.size = w.heap.size + 3) := by simp only [Hid, World.size_alloc]
  rw [World.size_alloc] at O2
  rw [World.size_alloc, World.size_alloc] at O3
  have hmf : ∀ (fn : Fn) (first cap : Array Value) (w : World), (Instr.makeFunc fn first cap).run Tryd.prog w = .ok (.func fn first cap) w := fun _ _ _ _ => rfl
  clear T TW
  unfold zEx at *
  go_enter_defers Tryd.func9, Tryd.ntmps9
  go_wp2_with fail
  obtain ⟨W0, hW0⟩ : ∃ W, W = (((w.alloc (.cells #[.int .u8 0, .int .u8 0, .int .i64 0, .string ⟨#[]⟩, .slice none 0 0, .int .i64 0] 26)).alloc (.cells #[.int .i64 0] 27)).alloc (.cells #[.int .i64 0, .int .i64 0] 29)) := ⟨_, rfl⟩
  rw [← hW0] at O1 O2 O3 B0 z0 ⊢
  clear hW0
  go_at_call 17
  refine (HSC.out _ (HT.out.1.below (Nat.le_refl _) B0)).mono ?_
  rintro e w1 ⟨u, rfl, hrow, hnil, hb1⟩
  have O1 := O1.below hb1
  have O2 := O2.below hb1
  have O3 := O3.below hb1
  have B1 := Lib.hid (B0.trans (hb1.mono (by have := z0.out; omega)))
  have z1 : Hid (w.heap.size + 3 ≤ w1.heap.size) := by have := hb1.size; have := z0.out; simp only [Hid]; omega
  have e5 : w1.setCell ⟨w.heap.size + 1, 0, none⟩ (.int .i64 4) = w1.setRow (w.heap.size + 1) #[.int .i64 4] := setCell_row O2 0 _
  have O1 := O1.other (g := w.heap.size + 1) #[.int .i64 4] (by omega)
  have O2' := O2.row #[.int .i64 4]
  have O3 := O3.other (g := w.heap.size + 1) #[.int .i64 4] (by omega)
  have c5 : w1.cell? ⟨w.heap.size + 1, 0, none⟩ = some (.int .i64 0) := by rw [cell_of_row _ _ 0 _ _ _ O2]; rfl
  have f5 := own_frozen O2 0
  have O1 := Lib.hid (O1.other (g := w.heap.size + 1 + 1) #[.int .i64 0, .int .i64 0] (by omega))
  have O2 := Lib.hid (O2'.other (g := w.heap.size + 1 + 1) #[.int .i64 0, .int .i64 0] (by omega))
  have O4 := Lib.hid (O3.row #[.int .i64 0, .int .i64 0])
  have B2 := Lib.hid (Below.of_row (Below.of_row B1.out (g := w.heap.size + 1) (by omega) #[.int .i64 4]) (g := w.heap.size + 1 + 1) (by omega) #[.int .i64 0, .int .i64 0])
  have z2 : Hid (((w1.setRow (w.heap.size + 1) #[.int .i64 4]).setRow (w.heap.size + 1 + 1) #[.int .i64 0, .int .i64 0]).heap.size = w1.heap.size) := by rw [Hid, size_setRow, size_setRow]
  have RW : Hid (((w1.setRow (w.heap.size + 1) #[.int .i64 4]).setRow (w.heap.size + 1 + 1) #[.int .i64 0, .int .i64 0]).ownsRow (w.heap.size + 3) 69 4 u (scanX s).1.length (rowR (scanX s).1)) := by
    have hrow := ownsRow_base hrow (base' := w.heap.size + 3) (by have := z0.out; omega)
    exact row_row (row_row hrow _ (fun e => by have := (hrow.lt _ e).1; omega)) _ (fun e => by have := (hrow.lt _ e).1; omega)
  clear hrow B0 O2' z0 hb1
  have HNIL := Lib.hid hnil
  clear hnil
  go_upto_region 2 with (first | (refine st rowFl rfl rfl O3 rfl rfl (by rfl) (by rfl) (by kernel_rfl) ?_))
  obtain ⟨W2, hW2⟩ : ∃ W, W = ((w1.setRow (w.heap.size + 1) #[.int .i64 4]).setRow (w.heap.size + 1 + 1) #[.int .i64 0, .int .i64 0]) := ⟨_, rfl⟩
  rw [← hW2] at O1 O2 O4 B2 z2 RW ⊢
  clear hW2 O3 e5 c5 f5
  have c5 : W2.cell? ⟨w.heap.size + 1, 0, none⟩ = some (.int .i64 4) := by rw [cell_of_row _ _ 0 _ _ _ O2.out]; rfl
  go_upto_region 3 with (fail)
  clear c5
  refine wp_region_held (S := fun W => Own W w.heap.size 26 #[.int .u8 0, .int .u8 0, .int .i64 0, .string ⟨#[]⟩, .slice none 0 0, .int .i64 0] ∧ Own W (w.heap.size + 1) 27 #[.int .i64 4]) (by kernel_rfl) ?_
  change wpAnyH _ _ _ _ _ _ _ _ W2.drew
  have o1 : Own W2.drew _ _ _ := O1.out
  have o2 : Own W2.drew _ _ _ := O2.out
  have o4 : Own W2.drew _ _ _ := O4.out
  have B3 := B2.out.drew
  generalize W2.drew = W3 at o1 o2 o4 B3 ⊢
  have S3 := And.intro o1 o2
  refine dr_take 0 (.agg #[.int .u8 0, .int .u8 0, .int .i64 0, .string ⟨#[]⟩, .slice none 0 0, .int .i64 0]) rfl rfl (by kernel_rfl) (by kernel_rfl) (by kernel_rfl) (fun c a w h => post_put rfl (by decide) c a w _ h) (fun W h => run_ld rowEx rfl rfl h.1 rfl) S3 ?_
  change wpAnyH _ _ _ _ _ _ _ { tmps := #[.string s, .func (.func 10) #[] #[], undef, undef, .pointer (some ⟨w.heap.size, 0, none⟩), .pointer (some ⟨w.heap.size + 1, 0, none⟩), .pointer (some ⟨w.heap.size + 1 + 1, 0, none⟩), u, undef, .tuple #[u, .int .i64 4, .agg #[.int .i64 0, .int .i64 0]], .string s, .tuple #[u, .int .i64 4, .agg #[.int .i64 0, .int .i64 0]], u, .int .i64 4, .agg #[.int .i64 0, .int .i64 0], .int .i64 4, .bool true, .agg #[.int .u8 0, .int .u8 0, .int .i64 0, .string ⟨#[]⟩, .slice none 0 0, .int .i64 0], undef, undef, undef, undef, undef, undef, undef, undef, undef, undef, undef, undef, undef, undef, undef, undef, undef, undef, undef, undef], defers := [] } _
  refine dr_take 1 (.int .i64 4) rfl rfl (by kernel_rfl) (by kernel_rfl) (by kernel_rfl) (fun c a w h => post_put rfl (by decide) c a w _ h) (fun W h => run_ld_err rfl rfl h.2) S3 ?_
  change wpAnyH _ _ _ _ _ _ _ { tmps := #[.string s, .func (.func 10) #[] #[], undef, undef, .pointer (some ⟨w.heap.size, 0, none⟩), .pointer (some ⟨w.heap.size + 1, 0, none⟩), .pointer (some ⟨w.heap.size + 1 + 1, 0, none⟩), u, undef, .tuple #[u, .int .i64 4, .agg #[.int .i64 0, .int .i64 0]], .string s, .tuple #[u, .int .i64 4, .agg #[.int .i64 0, .int .i64 0]], u, .int .i64 4, .agg #[.int .i64 0, .int .i64 0], .int .i64 4, .bool true, .agg #[.int .u8 0, .int .u8 0, .int .i64 0, .string ⟨#[]⟩, .slice none 0 0, .int .i64 0], .int .i64 4, undef, undef, undef, undef, undef, undef, undef, undef, undef, undef, undef, undef, undef, undef, undef, undef, undef, undef, undef], defers := [] } _
  refine dr_take 2 (.agg #[.int .i64 0, .int .i64 0]) rfl rfl (by kernel_rfl) (by kernel_rfl) (by kernel_rfl) (fun c a w h => post_put rfl (by decide) c a w _ h) (fun W h => by unfold execOp; go_simp) S3 ?_
  change wpAnyH _ _ _ _ _ _ _ { tmps := #[.string s, .func (.func 10) #[] #[], undef, undef, .pointer (some ⟨w.heap.size, 0, none⟩), .pointer (some ⟨w.heap.size + 1, 0, none⟩), .pointer (some ⟨w.heap.size + 1 + 1, 0, none⟩), u, undef, .tuple #[u, .int .i64 4, .agg #[.int .i64 0, .int .i64 0]], .string s, .tuple #[u, .int .i64 4, .agg #[.int .i64 0, .int .i64 0]], u, .int .i64 4, .agg #[.int .i64 0, .int .i64 0], .int .i64 4, .bool true, .agg #[.int .u8 0, .int .u8 0, .int .i64 0, .string ⟨#[]⟩, .slice none 0 0, .int .i64 0], .int .i64 4, .agg #[.int .i64 0, .int .i64 0], undef, undef, undef, undef, undef, undef, undef, undef, undef, undef, undef, undef, undef, undef, undef, undef, undef, undef], defers := [] } _
  refine dr_one 3 rfl rfl (by kernel_rfl) ?_
  refine wp_st_row (cs := #[.int .u8 0, .int .u8 0, .int .i64 0, .string ⟨#[]⟩, .slice none 0 0, .int .i64 0]) rowEx rfl o1 rfl rfl rfl rfl (by kernel_rfl) ?_
  have o1 := o1.row #[.int .u8 0, .int .u8 0, .int .i64 0, .string ⟨#[]⟩, .slice none 0 0, .int .i64 0]
  have o2 := o2.other (g := w.heap.size) #[.int .u8 0, .int .u8 0, .int .i64 0, .string ⟨#[]⟩, .slice none 0 0, .int .i64 0] (by omega)
  have o4 := o4.other (g := w.heap.size) #[.int .u8 0, .int .u8 0, .int .i64 0, .string ⟨#[]⟩, .slice none 0 0, .int .i64 0] (by omega)
  have B3 := Below.of_row B3 (g := w.heap.size) (by omega) #[.int .u8 0, .int .u8 0, .int .i64 0, .string ⟨#[]⟩, .slice none 0 0, .int .i64 0]
  refine ⟨⟨o1, o2⟩, ?_⟩
  change wpAnyH _ _ _ _ _ _ _ { tmps := #[.string s, .func (.func 10) #[] #[], undef, undef, .pointer (some ⟨w.heap.size, 0, none⟩), .pointer (some ⟨w.heap.size + 1, 0, none⟩), .pointer (some ⟨w.heap.size + 1 + 1, 0, none⟩), u, undef, .tuple #[u, .int .i64 4, .agg #[.int .i64 0, .int .i64 0]], .string s, .tuple #[u, .int .i64 4, .agg #[.int .i64 0, .int .i64 0]], u, .int .i64 4, .agg #[.int .i64 0, .int .i64 0], .int .i64 4, .bool true, .agg #[.int .u8 0, .int .u8 0, .int .i64 0, .string ⟨#[]⟩, .slice none 0 0, .int .i64 0], .int .i64 4, .agg #[.int .i64 0, .int .i64 0], undef, undef, undef, undef, undef, undef, undef, undef, undef, undef, undef, undef, undef, undef, undef, undef, undef, undef], defers := [] } _
  refine dr_one 4 rfl rfl (by kernel_rfl) ?_
  refine wp_st_errv (u := 4) rfl rfl rfl (by rw [cell_of_row _ _ 0 _ _ _ o2]; rfl) (own_frozen o2 0) ?_
  rw [show (W3.setRow w.heap.size #[.int .u8 0, .int .u8 0, .int .i64 0, .string ⟨#[]⟩, .slice none 0 0, .int .i64 0]).setCell ⟨w.heap.size + 1, 0, none⟩ (.int .i64 4) = (W3.setRow w.heap.size #[.int .u8 0, .int .u8 0, .int .i64 0, .string ⟨#[]⟩, .slice none 0 0, .int .i64 0]).setRow (w.heap.size + 1) #[.int .i64 4] from setCell_row o2 0 _]
  have o1 := o1.other (g := w.heap.size + 1) #[.int .i64 4] (by omega)
  have o2 := o2.row #[.int .i64 4]
  have o4 := o4.other (g := w.heap.size + 1) #[.int .i64 4] (by omega)
  have B3 := Below.of_row B3 (g := w.heap.size + 1) (by omega) #[.int .i64 4]
  refine ⟨⟨o1, o2⟩, ?_⟩
  change wpAnyH _ _ _ _ _ _ _ { tmps := #[.string s, .func (.func 10) #[] #[], undef, undef, .pointer (some ⟨w.heap.size, 0, none⟩), .pointer (some ⟨w.heap.size + 1, 0, none⟩), .pointer (some ⟨w.heap.size + 1 + 1, 0, none⟩), u, undef, .tuple #[u, .int .i64 4, .agg #[.int .i64 0, .int .i64 0]], .string s, .tuple #[u, .int .i64 4, .agg #[.int .i64 0, .int .i64 0]], u, .int .i64 4, .agg #[.int .i64 0, .int .i64 0], .int .i64 4, .bool true, .agg #[.int .u8 0, .int .u8 0, .int .i64 0, .string ⟨#[]⟩, .slice none 0 0, .int .i64 0], .int .i64 4, .agg #[.int .i64 0, .int .i64 0], undef, undef, undef, undef, undef, undef, undef, undef, undef, undef, undef, undef, undef, undef, undef, undef, undef, undef], defers := [] } _
  refine dr_one 5 rfl rfl (by kernel_rfl) ?_
  refine wp_st_row (cs := #[.int .i64 0, .int .i64 0]) rowFl rfl o4 rfl rfl rfl rfl (by kernel_rfl) ?_
  have o1 := Lib.hid (o1.other (g := w.heap.size + 1 + 1) #[.int .i64 0, .int .i64 0] (by omega))
  have o2 := Lib.hid (o2.other (g := w.heap.size + 1 + 1) #[.int .i64 0, .int .i64 0] (by omega))
  have o4 := Lib.hid (o4.row #[.int .i64 0, .int .i64 0])
  have B3 := Lib.hid (Below.of_row B3 (g := w.heap.size + 1 + 1) (by omega) #[.int .i64 0, .int .i64 0])
  refine ⟨⟨o1.out, o2.out⟩, ?_⟩
  clear S3
  refine wpAnyH_done (by kernel_rfl) ?_ _
  go_wp2_with fail
  refine ⟨_, res3 rfl rfl rfl rfl (lv_row rowEx o1.out rfl) (lv_err o2.out) (lv_row rowFl o4.out rfl), B3.out, ?_⟩
  rw [HR.out]
  exact ⟨_, rfl, rfl⟩
set_option maxRecDepth 100000 in
set_option maxHeartbeats 8000000 in
theorem wh_lex_E (s : ByteArray) {w : World} (T : LTabs w) (TW : Tabs w) (hl : ¬ 65536 < s.size) (hf : ¬ (frontR s).2.2 = 0) :
    Calls Tryd.prog 9 #[.string s, .func (.func 10) #[] #[]] w (WhPost w zEx exR (wholeR (fun L ts => binE fnd L (fuel ts) 1 0 ts) s)) := by
  obtain ⟨R, hR⟩ : ∃ R, R = wholeR (fun L ts => binE fnd L (fuel ts) 1 0 ts) s := ⟨_, rfl⟩
  rw [← hR]
  obtain ⟨pa, hpa⟩ : ∃ a, a = (frontR s).2.1 := ⟨_, rfl⟩
  obtain ⟨ru, hru⟩ : ∃ a, a = (frontR s).2.2 := ⟨_, rfl⟩
  have HR : Hid (R = (none, 30, pa, 1)) := by rw [Hid, hR, hpa]; unfold wholeR; rw [if_neg hl, if_pos hf]
  clear hR
  have HT := Lib.hid (And.intro T TW)
  have HSC : Hid (∀ W, LTabs W → Calls Tryd.prog 17 #[.string s] W fun e w' => ∃ u, e = .returned (.tuple #[u, .int .i64 20, .agg #[.int .i64 pa, .int .i64 ru]]) ∧ w'.ownsRow W.heap.size 69 4 u (scanX s).1.length (rowR (scanX s).1) ∧ (u = .slice none 0 0 ↔ (scanX s).1 = []) ∧ Below W.heap.size W w') := fun W TW => by have := scan_row s TW; rw [scan_lex hl hf] at this ⊢; rw [hpa, hru]; exact this
  clear hpa hru hf hl
  have O1 := ((Own.new w 26 zEx).alloc (.cells #[.int .i64 0] 27)).alloc (.cells #[.int .i64 0, .int .i64 0] 29)
  have O2 := (Own.new (w.alloc (.cells zEx 26)) 27 #[.int .i64 0]).alloc (.cells #[.int .i64 0, .int .i64 0] 29)
  have O3 := Own.new ((w.alloc (.cells zEx 26)).alloc (.cells #[.int .i64 0] 27)) 29 #[.int .i64 0, .int .i64 0]
  have B0 : Below w.heap.size w (((w.alloc (.cells zEx 26)).alloc (.cells #[.int .i64 0] 27)).alloc (.cells #[.int .i64 0, .int .i64 0] 29)) := (((Below.refl _ w).alloc (Nat.le_refl _) _).alloc (by simp only [World.size_alloc]; omega) _).alloc (by simp only [World.size_alloc]; omega) _
  have z0 : Hid ((((w.alloc (.cells zEx 26)).alloc (.cells #[.int .i64 0] 27)).alloc (.cells #[.int .i64 0, .int .i64 0] 29)).heap.size = w.heap.size + 3) := by simp only [Hid, World.size_alloc]
  rw [World.size_alloc] at O2
  rw [World.size_alloc, World.size_alloc] at O3
  have hmf : ∀ (fn : Fn) (first cap : Array Value) (w : World), (Instr.makeFunc fn first cap).run Tryd.prog w = .ok (.func fn first cap) w := fun _ _ _ _ => rfl
  clear T TW
  unfold zEx at *
  go_enter_defers Tryd.func9, Tryd.ntmps9
  go_wp2_with fail
  obtain ⟨W0, hW0⟩ : ∃ W, W = (((w.alloc (.cells #[.int .u8 0, .int .u8 0, .int .i64 0, .string ⟨#[]⟩, .slice none 0 0, .int .i64 0] 26)).alloc (.cells #[.int .i64 0] 27)).alloc (.cells #[.int .i64 0, .int .i64 0] 29)) := ⟨_, rfl⟩
  rw [← hW0] at O1 O2 O3 B0 z0 ⊢
  clear hW0
  go_at_call 17
  refine (HSC.out _ (HT.out.1.below (Nat.le_refl _) B0)).mono ?_
  rintro e w1 ⟨u, rfl, hrow, hnil, hb1⟩
  have O1 := O1.below hb1
  have O2 := O2.below hb1
  have O3 := O3.below hb1
  have B1 := Lib.hid (B0.trans (hb1.mono (by have := z0.out; omega)))
  have z1 : Hid (w.heap.size + 3 ≤ w1.heap.size) := by have := hb1.size; have := z0.out; simp only [Hid]; omega
  have e5 : w1.setCell ⟨w.heap.size + 1, 0, none⟩ (.int .i64 20) = w1.setRow (w.heap.size + 1) #[.int .i64 20] := setCell_row O2 0 _
  have O1 := O1.other (g := w.heap.size + 1) #[.int .i64 20] (by omega)
  have O2' := O2.row #[.int .i64 20]
  have O3 := O3.other (g := w.heap.size + 1) #[.int .i64 20] (by omega)
  have c5 : w1.cell? ⟨w.heap.size + 1, 0, none⟩ = some (.int .i64 0) := by rw [cell_of_row _ _ 0 _ _ _ O2]; rfl
  have f5 := own_frozen O2 0
  have O1 := Lib.hid (O1.other (g := w.heap.size + 1 + 1) #[.int .i64 pa, .int .i64 ru] (by omega))
  have O2 := Lib.hid (O2'.other (g := w.heap.size + 1 + 1) #[.int .i64 pa, .int .i64 ru] (by omega))
  have O4 := Lib.hid (O3.row #[.int .i64 pa, .int .i64 ru])
  have B2 := Lib.hid (Below.of_row (Below.of_row B1.out (g := w.heap.size + 1) (by omega) #[.int .i64 20]) (g := w.heap.size + 1 + 1) (by omega) #[.int .i64 pa, .int .i64 ru])
  have z2 : Hid (((w1.setRow (w.heap.size + 1) #[.int .i64 20]).setRow (w.heap.size + 1 + 1) #[.int .i64 pa, .int .i64 ru]).heap.size = w1.heap.size) := by rw [Hid, size_setRow, size_setRow]
  have RW : Hid (((w1.setRow (w.heap.size + 1) #[.int .i64 20]).setRow (w.heap.size + 1 + 1) #[.int .i64 pa, .int .i64 ru]).ownsRow (w.heap.size + 3) 69 4 u (scanX s).1.length (rowR (scanX s).1)) := by
    have hrow := ownsRow_base hrow (base' := w.heap.size + 3) (by have := z0.out; omega)
    exact row_row (row_row hrow _ (fun e => by have := (hrow.lt _ e).1; omega)) _ (fun e => by have := (hrow.lt _ e).1; omega)
  clear hrow B0 O2' z0 hb1
  have HNIL := Lib.hid hnil
  clear hnil
  go_upto_region 2 with (first | (refine st rowFl rfl rfl O3 rfl rfl (by rfl) (by rfl) (by kernel_rfl) ?_))
  obtain ⟨W2, hW2⟩ : ∃ W, W = ((w1.setRow (w.heap.size + 1) #[.int .i64 20]).setRow (w.heap.size + 1 + 1) #[.int .i64 pa, .int .i64 ru]) := ⟨_, rfl⟩
  rw [← hW2] at O1 O2 O4 B2 z2 RW ⊢
  clear hW2 O3 e5 c5 f5
  have c5 : W2.cell? ⟨w.heap.size + 1, 0, none⟩ = some (.int .i64 20) := by rw [cell_of_row _ _ 0 _ _ _ O2.out]; rfl
  go_upto_region 5 with (fail)
  clear c5
  refine wp_region_held (S := fun W => Own W w.heap.size 26 #[.int .u8 0, .int .u8 0, .int .i64 0, .string ⟨#[]⟩, .slice none 0 0, .int .i64 0] ∧ W.cell? ⟨w.heap.size + 1 + 1, 0, none⟩ = some (.int .i64 pa)) (by kernel_rfl) ?_
  change wpAnyH _ _ _ _ _ _ _ _ W2.drew
  have o1 : Own W2.drew _ _ _ := O1.out
  have o2 : Own W2.drew _ _ _ := O2.out
  have o4 : Own W2.drew _ _ _ := O4.out
  have B3 := B2.out.drew
  generalize W2.drew = W3 at o1 o2 o4 B3 ⊢
  have S3 : Own W3 w.heap.size 26 #[.int .u8 0, .int .u8 0, .int .i64 0, .string ⟨#[]⟩, .slice none 0 0, .int .i64 0] ∧ W3.cell? ⟨w.heap.size + 1 + 1, 0, none⟩ = some (.int .i64 pa) := ⟨o1, by rw [cell_of_row _ _ 0 _ _ _ o4]; rfl⟩
  refine dr_take 0 (.agg #[.int .u8 0, .int .u8 0, .int .i64 0, .string ⟨#[]⟩, .slice none 0 0, .int .i64 0]) rfl rfl (by kernel_rfl) (by kernel_rfl) (by kernel_rfl) (fun c a w h => post_put rfl (by decide) c a w _ h) (fun W h => run_ld rowEx rfl rfl h.1 rfl) S3 ?_
  change wpAnyH _ _ _ _ _ _ _ { tmps := #[.string s, .func (.func 10) #[] #[], undef, undef, .pointer (some ⟨w.heap.size, 0, none⟩), .pointer (some ⟨w.heap.size + 1, 0, none⟩), .pointer (some ⟨w.heap.size + 1 + 1, 0, none⟩), u, undef, .tuple #[u, .int .i64 20, .agg #[.int .i64 pa, .int .i64 ru]], .string s, .tuple #[u, .int .i64 20, .agg #[.int .i64 pa, .int .i64 ru]], u, .int .i64 20, .agg #[.int .i64 pa, .int .i64 ru], .int .i64 20, .bool false, undef, undef, undef, .int .i64 20, .bool true, .agg #[.int .u8 0, .int .u8 0, .int .i64 0, .string ⟨#[]⟩, .slice none 0 0, .int .i64 0], undef, undef, undef, undef, undef, undef, undef, undef, undef, undef, undef, undef, undef, undef, undef], defers := [] } _
  refine dr_take 1 (.pointer (some ⟨w.heap.size + 1 + 1, 0, none⟩)) rfl rfl (by kernel_rfl) (by kernel_rfl) (by kernel_rfl) (fun c a w h => post_put rfl (by decide) c a w _ h) (fun W h => by unfold execOp; go_simp) S3 ?_
  change wpAnyH _ _ _ _ _ _ _ { tmps := #[.string s, .func (.func 10) #[] #[], undef, undef, .pointer (some ⟨w.heap.size, 0, none⟩), .pointer (some ⟨w.heap.size + 1, 0, none⟩), .pointer (some ⟨w.heap.size + 1 + 1, 0, none⟩), u, undef, .tuple #[u, .int .i64 20, .agg #[.int .i64 pa, .int .i64 ru]], .string s, .tuple #[u, .int .i64 20, .agg #[.int .i64 pa, .int .i64 ru]], u, .int .i64 20, .agg #[.int .i64 pa, .int .i64 ru], .int .i64 20, .bool false, undef, undef, undef, .int .i64 20, .bool true, .agg #[.int .u8 0, .int .u8 0, .int .i64 0, .string ⟨#[]⟩, .slice none 0 0, .int .i64 0], .pointer (some ⟨w.heap.size + 1 + 1, 0, none⟩), undef, undef, undef, undef, undef, undef, undef, undef, undef, undef, undef, undef, undef, undef], defers := [] } _
  refine dr_take 2 (.int .i64 pa) rfl rfl (by kernel_rfl) (by kernel_rfl) (by kernel_rfl) (fun c a w h => post_put rfl (by decide) c a w _ h) (fun W h => run_ld_int rfl rfl h.2) S3 ?_
  change wpAnyH _ _ _ _ _ _ _ { tmps := #[.string s, .func (.func 10) #[] #[], undef, undef, .pointer (some ⟨w.heap.size, 0, none⟩), .pointer (some ⟨w.heap.size + 1, 0, none⟩), .pointer (some ⟨w.heap.size + 1 + 1, 0, none⟩), u, undef, .tuple #[u, .int .i64 20, .agg #[.int .i64 pa, .int .i64 ru]], .string s, .tuple #[u, .int .i64 20, .agg #[.int .i64 pa, .int .i64 ru]], u, .int .i64 20, .agg #[.int .i64 pa, .int .i64 ru], .int .i64 20, .bool false, undef, undef, undef, .int .i64 20, .bool true, .agg #[.int .u8 0, .int .u8 0, .int .i64 0, .string ⟨#[]⟩, .slice none 0 0, .int .i64 0], .pointer (some ⟨w.heap.size + 1 + 1, 0, none⟩), .int .i64 pa, undef, undef, undef, undef, undef, undef, undef, undef, undef, undef, undef, undef, undef], defers := [] } _
  refine dr_take 3 (.agg #[.int .i64 pa, .int .i64 1]) rfl rfl (by kernel_rfl) (by kernel_rfl) (by kernel_rfl) (fun c a w h => post_put rfl (by decide) c a w _ h) (fun W h => by unfold execOp; go_simp) S3 ?_
  change wpAnyH _ _ _ _ _ _ _ { tmps := #[.string s, .func (.func 10) #[] #[], undef, undef, .pointer (some ⟨w.heap.size, 0, none⟩), .pointer (some ⟨w.heap.size + 1, 0, none⟩), .pointer (some ⟨w.heap.size + 1 + 1, 0, none⟩), u, undef, .tuple #[u, .int .i64 20, .agg #[.int .i64 pa, .int .i64 ru]], .string s, .tuple #[u, .int .i64 20, .agg #[.int .i64 pa, .int .i64 ru]], u, .int .i64 20, .agg #[.int .i64 pa, .int .i64 ru], .int .i64 20, .bool false, undef, undef, undef, .int .i64 20, .bool true, .agg #[.int .u8 0, .int .u8 0, .int .i64 0, .string ⟨#[]⟩, .slice none 0 0, .int .i64 0], .pointer (some ⟨w.heap.size + 1 + 1, 0, none⟩), .int .i64 pa, .agg #[.int .i64 pa, .int .i64 1], undef, undef, undef, undef, undef, undef, undef, undef, undef, undef, undef, undef], defers := [] } _
  refine dr_one 4 rfl rfl (by kernel_rfl) ?_
  refine wp_st_row (cs := #[.int .u8 0, .int .u8 0, .int .i64 0, .string ⟨#[]⟩, .slice none 0 0, .int .i64 0]) rowEx rfl o1 rfl rfl rfl rfl (by kernel_rfl) ?_
  have o1 := o1.row #[.int .u8 0, .int .u8 0, .int .i64 0, .string ⟨#[]⟩, .slice none 0 0, .int .i64 0]
  have o2 := o2.other (g := w.heap.size) #[.int .u8 0, .int .u8 0, .int .i64 0, .string ⟨#[]⟩, .slice none 0 0, .int .i64 0] (by omega)
  have o4 := o4.other (g := w.heap.size) #[.int .u8 0, .int .u8 0, .int .i64 0, .string ⟨#[]⟩, .slice none 0 0, .int .i64 0] (by omega)
  have B3 := Below.of_row B3 (g := w.heap.size) (by omega) #[.int .u8 0, .int .u8 0, .int .i64 0, .string ⟨#[]⟩, .slice none 0 0, .int .i64 0]
  refine ⟨⟨o1, by rw [cell_of_row _ _ 0 _ _ _ o4]; rfl⟩, ?_⟩
  change wpAnyH _ _ _ _ _ _ _ { tmps := #[.string s, .func (.func 10) #[] #[], undef, undef, .pointer (some ⟨w.heap.size, 0, none⟩), .pointer (some ⟨w.heap.size + 1, 0, none⟩), .pointer (some ⟨w.heap.size + 1 + 1, 0, none⟩), u, undef, .tuple #[u, .int .i64 20, .agg #[.int .i64 pa, .int .i64 ru]], .string s, .tuple #[u, .int .i64 20, .agg #[.int .i64 pa, .int .i64 ru]], u, .int .i64 20, .agg #[.int .i64 pa, .int .i64 ru], .int .i64 20, .bool false, undef, undef, undef, .int .i64 20, .bool true, .agg #[.int .u8 0, .int .u8 0, .int .i64 0, .string ⟨#[]⟩, .slice none 0 0, .int .i64 0], .pointer (some ⟨w.heap.size + 1 + 1, 0, none⟩), .int .i64 pa, .agg #[.int .i64 pa, .int .i64 1], undef, undef, undef, undef, undef, undef, undef, undef, undef, undef, undef, undef], defers := [] } _
  refine dr_one 5 rfl rfl (by kernel_rfl) ?_
  refine wp_st_err (u := 20) rfl rfl (by rw [cell_of_row _ _ 0 _ _ _ o2]; rfl) (own_frozen o2 0) ?_
  rw [show (W3.setRow w.heap.size #[.int .u8 0, .int .u8 0, .int .i64 0, .string ⟨#[]⟩, .slice none 0 0, .int .i64 0]).setCell ⟨w.heap.size + 1, 0, none⟩ (.int .i64 30) = (W3.setRow w.heap.size #[.int .u8 0, .int .u8 0, .int .i64 0, .string ⟨#[]⟩, .slice none 0 0, .int .i64 0]).setRow (w.heap.size + 1) #[.int .i64 30] from setCell_row o2 0 _]
  have o1 := o1.other (g := w.heap.size + 1) #[.int .i64 30] (by omega)
  have o2 := o2.row #[.int .i64 30]
  have o4 := o4.other (g := w.heap.size + 1) #[.int .i64 30] (by omega)
  have B3 := Below.of_row B3 (g := w.heap.size + 1) (by omega) #[.int .i64 30]
  refine ⟨⟨o1, by rw [cell_of_row _ _ 0 _ _ _ o4]; rfl⟩, ?_⟩
  change wpAnyH _ _ _ _ _ _ _ { tmps := #[.string s, .func (.func 10) #[] #[], undef, undef, .pointer (some ⟨w.heap.size, 0, none⟩), .pointer (some ⟨w.heap.size + 1, 0, none⟩), .pointer (some ⟨w.heap.size + 1 + 1, 0, none⟩), u, undef, .tuple #[u, .int .i64 20, .agg #[.int .i64 pa, .int .i64 ru]], .string s, .tuple #[u, .int .i64 20, .agg #[.int .i64 pa, .int .i64 ru]], u, .int .i64 20, .agg #[.int .i64 pa, .int .i64 ru], .int .i64 20, .bool false, undef, undef, undef, .int .i64 20, .bool true, .agg #[.int .u8 0, .int .u8 0, .int .i64 0, .string ⟨#[]⟩, .slice none 0 0, .int .i64 0], .pointer (some ⟨w.heap.size + 1 + 1, 0, none⟩), .int .i64 pa, .agg #[.int .i64 pa, .int .i64 1], undef, undef, undef, undef, undef, undef, undef, undef, undef, undef, undef, undef], defers := [] } _
  refine dr_one 6 rfl rfl (by kernel_rfl) ?_
  refine wp_st_row (cs := #[.int .i64 pa, .int .i64 1]) rowFl rfl o4 rfl rfl rfl rfl (by kernel_rfl) ?_
  have o1 := Lib.hid (o1.other (g := w.heap.size + 1 + 1) #[.int .i64 pa, .int .i64 1] (by omega))
  have o2 := Lib.hid (o2.other (g := w.heap.size + 1 + 1) #[.int .i64 pa, .int .i64 1] (by omega))
  have o4 := Lib.hid (o4.row #[.int .i64 pa, .int .i64 1])
  have B3 := Lib.hid (Below.of_row B3 (g := w.heap.size + 1 + 1) (by omega) #[.int .i64 pa, .int .i64 1])
  refine ⟨⟨o1.out, by rw [cell_of_row _ _ 0 _ _ _ o4.out]; rfl⟩, ?_⟩
  clear S3
  refine wpAnyH_done (by kernel_rfl) ?_ _
  go_wp2_with fail
  refine ⟨_, res3 rfl rfl rfl rfl (lv_row rowEx o1.out rfl) (lv_err o2.out) (lv_row rowFl o4.out rfl), B3.out, ?_⟩
  rw [HR.out]
  exact ⟨_, rfl, rfl⟩
set_option maxRecDepth 100000 in
set_option maxHeartbeats 8000000 in
theorem wh_go_E (s : ByteArray) {w : World} (T : LTabs w) (TW : Tabs w) (hl : ¬ 65536 < s.size) (hf : (frontR s).2.2 = 0) :
    Calls Tryd.prog 9 #[.string s, .func (.func 10) #[] #[]] w (WhPost w zEx exR (wholeR (fun L ts => binE fnd L (fuel ts) 1 0 ts) s)) := by
  obtain ⟨R, hR⟩ : ∃ R, R = wholeR (fun L ts => binE fnd L (fuel ts) 1 0 ts) s := ⟨_, rfl⟩
  rw [← hR]
  obtain ⟨toks, hto⟩ : ∃ l, l = (scanX s).1 := ⟨_, rfl⟩
  obtain ⟨Y, hY⟩ : ∃ Y, Y = binE fnd (s.size : Int) (fuel (toks.map Res.tk)) 1 0 (toks.map Res.tk) := ⟨_, rfl⟩
  have HR : Hid (R = endR (endP Y)) := by rw [Hid, hR, hY, hto]; unfold wholeR; rw [if_neg hl, if_neg (by simpa using hf)]
  have HTK : Hid (toks.length ≤ 65536 ∧ s.size ≤ 65536 ∧ ∀ x ∈ toks, 0 ≤ x.wd ∧ x.wd ≤ 9223372036854775807) := ⟨by rw [hto]; exact scanX_len s, by omega, by rw [hto]; exact scanX_wd s⟩
  clear hR
  have HT := Lib.hid (And.intro T TW)
  have HSC : Hid (∀ W, LTabs W → Calls Tryd.prog 17 #[.string s] W fun e w' => ∃ u, e = .returned (.tuple #[u, .int .i64 0, .agg #[.int .i64 0, .int .i64 0]]) ∧ w'.ownsRow W.heap.size 69 4 u (scanX s).1.length (rowR (scanX s).1) ∧ (u = .slice none 0 0 ↔ (scanX s).1 = []) ∧ Below W.heap.size W w') := fun W TW => by have := scan_row s TW; rw [scan_toks hl hf] at this ⊢; exact this
  have O1 := ((Own.new w 26 zEx).alloc (.cells #[.int .i64 0] 27)).alloc (.cells #[.int .i64 0, .int .i64 0] 29)
  have O2 := (Own.new (w.alloc (.cells zEx 26)) 27 #[.int .i64 0]).alloc (.cells #[.int .i64 0, .int .i64 0] 29)
  have O3 := Own.new ((w.alloc (.cells zEx 26)).alloc (.cells #[.int .i64 0] 27)) 29 #[.int .i64 0, .int .i64 0]
  have B0 : Below w.heap.size w (((w.alloc (.cells zEx 26)).alloc (.cells #[.int .i64 0] 27)).alloc (.cells #[.int .i64 0, .int .i64 0] 29)) := (((Below.refl _ w).alloc (Nat.le_refl _) _).alloc (by simp only [World.size_alloc]; omega) _).alloc (by simp only [World.size_alloc]; omega) _
  have z0 : Hid ((((w.alloc (.cells zEx 26)).alloc (.cells #[.int .i64 0] 27)).alloc (.cells #[.int .i64 0, .int .i64 0] 29)).heap.size = w.heap.size + 3) := by simp only [Hid, World.size_alloc]
  rw [World.size_alloc] at O2
  rw [World.size_alloc, World.size_alloc] at O3
  have hmf : ∀ (fn : Fn) (first cap : Array Value) (w : World), (Instr.makeFunc fn first cap).run Tryd.prog w = .ok (.func fn first cap) w := fun _ _ _ _ => rfl
  clear T TW
  unfold zEx at *
  rw [← hto] at HSC
  clear hl hf hto
  have HY := Lib.hid hY
  clear hY
  go_enter_defers Tryd.func9, Tryd.ntmps9
  go_wp2_with fail
  obtain ⟨W0, hW0⟩ : ∃ W, W = (((w.alloc (.cells #[.int .u8 0, .int .u8 0, .int .i64 0, .string ⟨#[]⟩, .slice none 0 0, .int .i64 0] 26)).alloc (.cells #[.int .i64 0] 27)).alloc (.cells #[.int .i64 0, .int .i64 0] 29)) := ⟨_, rfl⟩
  rw [← hW0] at O1 O2 O3 B0 z0 ⊢
  clear hW0
  go_at_call 17
  refine (HSC.out _ (HT.out.1.below (Nat.le_refl _) B0)).mono ?_
  rintro e w1 ⟨u, rfl, hrow, hnil, hb1⟩
  have O1 := O1.below hb1
  have O2 := O2.below hb1
  have O3 := O3.below hb1
  have B1 := Lib.hid (B0.trans (hb1.mono (by have := z0.out; omega)))
  have z1 : Hid (w.heap.size + 3 ≤ w1.heap.size) := by have := hb1.size; have := z0.out; simp only [Hid]; omega
  have e5 : w1.setCell ⟨w.heap.size + 1, 0, none⟩ (.int .i64 0) = w1.setRow (w.heap.size + 1) #[.int .i64 0] := setCell_row O2 0 _
  have O1 := O1.other (g := w.heap.size + 1) #[.int .i64 0] (by omega)
  have O2' := O2.row #[.int .i64 0]
  have O3 := O3.other (g := w.heap.size + 1) #[.int .i64 0] (by omega)
  have c5 : w1.cell? ⟨w.heap.size + 1, 0, none⟩ = some (.int .i64 0) := by rw [cell_of_row _ _ 0 _ _ _ O2]; rfl
  have f5 := own_frozen O2 0
  have O1 := Lib.hid (O1.other (g := w.heap.size + 1 + 1) #[.int .i64 0, .int .i64 0] (by omega))
  have O2 := Lib.hid (O2'.other (g := w.heap.size + 1 + 1) #[.int .i64 0, .int .i64 0] (by omega))
  have O4 := Lib.hid (O3.row #[.int .i64 0, .int .i64 0])
  have B2 := Lib.hid (Below.of_row (Below.of_row B1.out (g := w.heap.size + 1) (by omega) #[.int .i64 0]) (g := w.heap.size + 1 + 1) (by omega) #[.int .i64 0, .int .i64 0])
  have z2 : Hid (((w1.setRow (w.heap.size + 1) #[.int .i64 0]).setRow (w.heap.size + 1 + 1) #[.int .i64 0, .int .i64 0]).heap.size = w1.heap.size) := by rw [Hid, size_setRow, size_setRow]
  have RW : Hid (((w1.setRow (w.heap.size + 1) #[.int .i64 0]).setRow (w.heap.size + 1 + 1) #[.int .i64 0, .int .i64 0]).ownsRow (w.heap.size + 3) 69 4 u toks.length (rowR toks)) := by
    have hrow := ownsRow_base hrow (base' := w.heap.size + 3) (by have := z0.out; omega)
    exact row_row (row_row hrow _ (fun e => by have := (hrow.lt _ e).1; omega)) _ (fun e => by have := (hrow.lt _ e).1; omega)
  clear hrow B0 O2' z0 hb1
  have HNIL := Lib.hid hnil
  clear hnil
  go_upto_region 2 with (first | (refine st rowFl rfl rfl O3 rfl rfl (by rfl) (by rfl) (by kernel_rfl) ?_))
  obtain ⟨W2, hW2⟩ : ∃ W, W = ((w1.setRow (w.heap.size + 1) #[.int .i64 0]).setRow (w.heap.size + 1 + 1) #[.int .i64 0, .int .i64 0]) := ⟨_, rfl⟩
  rw [← hW2] at O1 O2 O4 B2 z2 RW ⊢
  clear hW2 O3 e5 c5 f5
  have c5 : W2.cell? ⟨w.heap.size + 1, 0, none⟩ = some (.int .i64 0) := by rw [cell_of_row _ _ 0 _ _ _ O2.out]; rfl
  obtain ⟨oa, cap, rfl, hoa⟩ := row_shape RW.out
  have HLT : Hid (∀ g off, oa = some ⟨g, off, none⟩ → w.heap.size + 3 ≤ g ∧ g < W2.heap.size) := by
    intro g off e
    subst e
    rcases RW.out.2 with ⟨h, _⟩ | ⟨g', cap', cur, h, h2, h3, _⟩
    · cases h
    · cases h
      exact ⟨h2, (Array.getElem?_eq_some_iff.1 h3).1⟩
  have LT2 := Lib.hid (HT.out.2.below (Nat.le_refl _) B2.out)
  have HNW := Lib.hid (p_new (L := s.size) (tokRow_owns RW.out) (fun g off e => (HLT.out g off e).2) LT2.out HTK.out)
  obtain ⟨c, hc⟩ : ∃ c, c = newC W2 oa cap toks s.size := ⟨_, rfl⟩
  rw [← hc] at HNW
  have HC := Lib.hid hc
  have z3 : Hid (w.heap.size + 3 ≤ W2.heap.size) := by have := z1.out; have := z2.out; simp only [Hid]; omega
  have cX : Hid (c.X = W2.heap.size) := by rw [hc]; rfl
  have cL : Hid (c.L = s.size ∧ c.at 0 = toks.map Res.tk) := by rw [hc]; exact ⟨rfl, rfl⟩
  have HEX : Hid (∀ W, Rd c W 0 → Calls Tryd.prog 10 #[c.ptr] W (RdPost c W Y (exR W.heap.size))) := fun W RW => by
    have := p_expression (n := fuel (toks.map Res.tk)) RW (by rw [cL.out.2]; unfold fuel; omega)
    rw [cL.out.2, cL.out.1] at this
    rw [HY.out]
    exact this
  have HEN : Hid (∀ W k, Rd c W k → Calls Tryd.prog 20 #[c.ptr] W fun e w' => Fr c W w' ∧ e = match c.at k with | [] => .returned (.tuple #[]) | t :: _ => .panicked (flt t.pos 2)) := fun W k RW => p_end RW
  have HRW : Hid (∀ W k cs, Rd c W k → Rd c (W.setRow w.heap.size cs) k) := fun W k cs RW => RW.setRow cs (by rw [hc]; simp only [newC]; have := z3.out; omega) (fun b off e => by have := (HLT.out b off (by rw [hc] at e; exact e)).1; omega) (by have h1 := HT.out.2.size1; have h2 := HT.out.2.size2; omega)
  clear hc hoa
  unfold Par.ptr at *
  go_wp2_with fail
  go_at_call 19
  refine HNW.out.mono ?_
  rintro e w3 ⟨rfl, hb3, hR3⟩
  have O1 := Lib.hid (O1.out.below hb3)
  have O2 := Lib.hid (O2.out.below hb3)
  have O4 := Lib.hid (O4.out.below hb3)
  have B3 := Lib.hid (B2.out.trans (hb3.mono (by have := z3.out; omega)))
  have R3 := Lib.hid hR3
  have z4 : Hid (w.heap.size + 3 ≤ w3.heap.size) := by have := hb3.size; have := z3.out; simp only [Hid]; omega
  clear hb3 hR3 c5
  go_wp2_with fail
  go_at_call 10
  refine (HEX.out _ R3.out).mono ?_
  rintro e w4 ⟨hf4, hm⟩
  have xX : Hid (c.X ≠ w.heap.size ∧ c.X ≠ w.heap.size + 1 ∧ c.X ≠ w.heap.size + 1 + 1 ∧ w.heap.size ≤ c.X) := by have := z3.out; have := cX.out; simp only [Hid]; omega
  have O1 := Lib.hid (O1.out.fr hf4 xX.out.1)
  have O2 := Lib.hid (O2.out.fr hf4 xX.out.2.1)
  have O4 := Lib.hid (O4.out.fr hf4 xX.out.2.2.1)
  have B4 : Hid (Below w.heap.size w w4) := B3.out.trans (fr_below hf4 xX.out.2.2.2 (by have := z4.out; omega))
  rcases Y with ⟨x, r⟩ | ⟨p, q⟩
  rotate_left
  · obtain rfl := hm
    clear hf4
    go_wp2_with fail
    refine leaves_cons (f := 18) (args := #[.pointer (some ⟨w.heap.size, 0, none⟩), .pointer (some ⟨w.heap.size + 1, 0, none⟩), .pointer (some ⟨w.heap.size + 1 + 1, 0, none⟩)]) (by simp) (by simp [go_sem]) ?_
    refine (catch_ex (n := w.heap.size) O1.out rfl O2.out O4.out rfl (by omega) (by omega)).mono ?_
    rintro e u' w5 ⟨rfl, rfl, q1, q2, q3, hb⟩
    refine ⟨_, res3 rfl rfl rfl rfl (lv_row rowEx q1 rfl) (lv_err q2) (lv_row rowFl q3 rfl), B4.out.trans hb, ?_⟩
    rw [HR.out]
    exact ⟨_, rfl, rfl⟩
  obtain ⟨v, k4, rfl, hV, hR4, rfl⟩ := hm
  have z5 : Hid (w.heap.size + 3 ≤ w4.heap.size ∧ w3.heap.size ≤ w4.heap.size) := by have := Keep.size hf4; have := z4.out; simp only [Hid]; omega
  have HV := Lib.hid hV
  obtain ⟨a6, c6, rfl, _⟩ := hV
  obtain ⟨VV, hVV⟩ : ∃ VV : Array Value, VV = #[.int .u8 x.kind, .int .u8 x.op, .int .i64 x.wd, .string x.name, .slice a6 x.kids.length c6, .int .i64 x.pos] := ⟨_, rfl⟩
  have VS : Hid (VV.size = zEx.size) := by rw [hVV]; rfl
  have P1 := Lib.hid (O1.out.row VV)
  have P2 := Lib.hid (O2.out.other (g := w.heap.size) VV (by omega))
  have P4 := Lib.hid (O4.out.other (g := w.heap.size) VV (by omega))
  have B5 := Lib.hid (Below.of_row B4.out (g := w.heap.size) (Nat.le_refl _) VV)
  have R5 := Lib.hid (HRW.out _ _ VV hR4)
  have V5 : Hid (exR w3.heap.size x (.agg VV) (w4.setRow w.heap.size VV)) := by rw [hVV]; exact exR_stays HV.out (stays_row w4 _ (fun b hb => by have := z4.out; omega)) (Nat.le_refl _)
  clear hf4 hR4
  have o1 := O1.out
  subst hVV
  go_wp2_with (first | (refine st rowEx rfl rfl o1 rfl rfl (by rfl) (by rfl) (by kernel_rfl) ?_))
  clear o1
  go_at_call 20
  refine (HEN.out _ _ R5.out).mono ?_
  rintro e w6 ⟨hf6, he⟩
  have z6 : Hid (w.heap.size + 3 ≤ w6.heap.size) := by have := Keep.size hf6; rw [size_setRow] at this; have := z5.out; simp only [Hid]; omega
  have P1 := Lib.hid (P1.out.fr hf6 xX.out.1)
  have P2 := Lib.hid (P2.out.fr hf6 xX.out.2.1)
  have P4 := Lib.hid (P4.out.fr hf6 xX.out.2.2.1)
  have B6 : Hid (Below w.heap.size w w6) := B5.out.trans (fr_below hf6 xX.out.2.2.2 (by rw [size_setRow]; have := z5.out; omega))
  have V6 : Hid (exR w3.heap.size x (.agg #[.int .u8 x.kind, .int .u8 x.op, .int .i64 x.wd, .string x.name, .slice a6 x.kids.length c6, .int .i64 x.pos]) w6) := exR_stays V5.out (stays_fr hf6 (fun b hb => by have h1 := hb; have h2 := R3.out.lt; change w3.heap.size ≤ b at h1; omega)) (Nat.le_refl _)
  have HR : Hid (R = match c.at k4 with | [] => (some x, 0, 0, 0) | t :: _ => (none, 30, t.pos, 2)) := by
    rw [Hid, HR.out]
    show endR (match c.at k4 with | [] => PR.ok x [] | t :: _ => PR.bad t.pos 2) = _
    cases c.at k4 <;> rfl
  clear hf6
  generalize c.at k4 = ts at he HR
  cases ts with
  | cons t r =>
    subst he
    go_wp2_with fail
    refine leaves_cons (f := 18) (args := #[.pointer (some ⟨w.heap.size, 0, none⟩), .pointer (some ⟨w.heap.size + 1, 0, none⟩), .pointer (some ⟨w.heap.size + 1 + 1, 0, none⟩)]) (by simp) (by simp [go_sem]) ?_
    refine (catch_ex (n := w.heap.size) P1.out VS.out P2.out P4.out rfl (by omega) (by omega)).mono ?_
    rintro e u' w7 ⟨rfl, rfl, q1, q2, q3, hb⟩
    refine ⟨_, res3 rfl rfl rfl rfl (lv_row rowEx q1 rfl) (lv_err q2) (lv_row rowFl q3 rfl), B6.out.trans hb, ?_⟩
    rw [HR.out]
    exact ⟨_, rfl, rfl⟩
  | nil =>
    subst he
    have p1 := P1.out
    have e7 : (w6.setRow w.heap.size #[.int .u8 x.kind, .int .u8 x.op, .int .i64 x.wd, .string x.name, .slice a6 x.kids.length c6, .int .i64 x.pos]).setCell ⟨w.heap.size + 1, 0, none⟩ (.int .i64 0) = (w6.setRow w.heap.size #[.int .u8 x.kind, .int .u8 x.op, .int .i64 x.wd, .string x.name, .slice a6 x.kids.length c6, .int .i64 x.pos]).setRow (w.heap.size + 1) #[.int .i64 0] := setCell_row (P2.out.other (g := w.heap.size) #[.int .u8 x.kind, .int .u8 x.op, .int .i64 x.wd, .string x.name, .slice a6 x.kids.length c6, .int .i64 x.pos] (by omega)) 0 _
    have c7 : (w6.setRow w.heap.size #[.int .u8 x.kind, .int .u8 x.op, .int .i64 x.wd, .string x.name, .slice a6 x.kids.length c6, .int .i64 x.pos]).cell? ⟨w.heap.size + 1, 0, none⟩ = some (.int .i64 0) := by rw [cell_of_row _ _ 0 _ _ _ (P2.out.other (g := w.heap.size) #[.int .u8 x.kind, .int .u8 x.op, .int .i64 x.wd, .string x.name, .slice a6 x.kids.length c6, .int .i64 x.pos] (by omega))]; rfl
    have f7 := own_frozen (P2.out.other (g := w.heap.size) #[.int .u8 x.kind, .int .u8 x.op, .int .i64 x.wd, .string x.name, .slice a6 x.kids.length c6, .int .i64 x.pos] (by omega)) 0
    have q1 := Lib.hid (((P1.out.row #[.int .u8 x.kind, .int .u8 x.op, .int .i64 x.wd, .string x.name, .slice a6 x.kids.length c6, .int .i64 x.pos]).other (g := w.heap.size + 1) #[.int .i64 0] (by omega)).other (g := w.heap.size + 1 + 1) #[.int .i64 0, .int .i64 0] (by omega))
    have q2 := Lib.hid (((P2.out.other (g := w.heap.size) #[.int .u8 x.kind, .int .u8 x.op, .int .i64 x.wd, .string x.name, .slice a6 x.kids.length c6, .int .i64 x.pos] (by omega)).row #[.int .i64 0]).other (g := w.heap.size + 1 + 1) #[.int .i64 0, .int .i64 0] (by omega))
    have p4 := (P4.out.other (g := w.heap.size) #[.int .u8 x.kind, .int .u8 x.op, .int .i64 x.wd, .string x.name, .slice a6 x.kids.length c6, .int .i64 x.pos] (by omega)).other (g := w.heap.size + 1) #[.int .i64 0] (by omega)
    have q4 := Lib.hid (p4.row #[.int .i64 0, .int .i64 0])
    have B7 := Lib.hid (Below.of_row (Below.of_row (Below.of_row B6.out (g := w.heap.size) (Nat.le_refl _) #[.int .u8 x.kind, .int .u8 x.op, .int .i64 x.wd, .string x.name, .slice a6 x.kids.length c6, .int .i64 x.pos]) (g := w.heap.size + 1) (by omega) #[.int .i64 0]) (g := w.heap.size + 1 + 1) (by omega) #[.int .i64 0, .int .i64 0])
    have V7 : Hid (exR w.heap.size x (.agg #[.int .u8 x.kind, .int .u8 x.op, .int .i64 x.wd, .string x.name, .slice a6 x.kids.length c6, .int .i64 x.pos]) (((w6.setRow w.heap.size #[.int .u8 x.kind, .int .u8 x.op, .int .i64 x.wd, .string x.name, .slice a6 x.kids.length c6, .int .i64 x.pos]).setRow (w.heap.size + 1) #[.int .i64 0]).setRow (w.heap.size + 1 + 1) #[.int .i64 0, .int .i64 0])) := exR_stays V6.out (((stays_row w6 _ (fun b hb => by have := z4.out; change w3.heap.size ≤ b at hb; omega)).trans (stays_row _ _ (fun b hb => by have := z4.out; change w3.heap.size ≤ b at hb; omega))).trans (stays_row _ _ (fun b hb => by have := z4.out; change w3.heap.size ≤ b at hb; omega))) (by have := z4.out; omega)
    go_wp2_with (first | (refine ld rowEx rfl rfl rfl p1 rfl ?_) | (refine st rowEx rfl rfl p1 rfl rfl (by rfl) (by rfl) (by kernel_rfl) ?_) | (refine st rowFl rfl rfl p4 rfl rfl (by rfl) (by rfl) (by kernel_rfl) ?_))
    refine leaves_cons (f := 18) (args := #[.pointer (some ⟨w.heap.size, 0, none⟩), .pointer (some ⟨w.heap.size + 1, 0, none⟩), .pointer (some ⟨w.heap.size + 1 + 1, 0, none⟩)]) (by simp) (by simp [go_sem]) ?_
    refine (idle_E _ _ _ _).mono ?_
    rintro e u' w8 ⟨rfl, rfl, rfl⟩
    refine ⟨_, res3 rfl rfl rfl rfl (lv_row rowEx q1.out rfl) (lv_err q2.out) (lv_row rowFl q4.out rfl), B7.out, ?_⟩
    rw [HR.out]
    exact ⟨_, rfl, V7.out⟩
/-- A whole text. -/
theorem p_whole_E (s : ByteArray) {w : World} (T : LTabs w) (TW : Tabs w) :
    Calls Tryd.prog 9 #[.string s, .func (.func 10) #[] #[]] w (WhPost w zEx exR (wholeR (fun L ts => binE fnd L (fuel ts) 1 0 ts) s)) := by
  by_cases hl : 65536 < s.size
  · exact wh_long_E s T TW hl
  · by_cases hf : (frontR s).2.2 = 0
    · exact wh_go_E s T TW hl hf
    · exact wh_lex_E s T TW hl hf
set_option maxRecDepth 100000 in
set_option maxHeartbeats 1000000 in
theorem idle_P (x y z : Value) (w : World) : CallsD Tryd.prog 49 #[x, y, z] .returning w fun e u' w' => e = .returned (.tuple #[]) ∧ u' = .returning ∧ w' = w := by
  have hnil := any_nil
  refine callsD_of_wpS Tryd.func49 rfl fun c₀ cs hu => ?_
  apply wpS_seq
  apply wpS_region
  simp [wpOpsS, go_sem, recoverD, hu, Tryd.ntmps49, Exit.thenS]
  rw [show (#[x, y, z] ++ (((Array.replicate 17 undef).setIfInBounds 4 .nilIface).setIfInBounds 0 .nilIface) : Array Value) = #[x, y, z, .nilIface, undef, undef, undef, .nilIface, undef, undef, undef, undef, undef, undef, undef, undef, undef, undef, undef, undef] from by kernel_rfl]
  refine wpS_of_wp ?_
  generalize hQ : (fun e a' w' => bodyPostS _ _ _ _ _ e a' _ w') = Q
  go_wp2
  subst hQ
  cases c₀
  simp_all [bodyPostS, results, Tryd.results49]
set_option maxRecDepth 100000 in
set_option maxHeartbeats 8000000 in
theorem wh_long_P (s : ByteArray) {w : World} (T : LTabs w) (TW : Tabs w) (hl : 65536 < s.size) :
    Calls Tryd.prog 27 #[.string s, .func (.func 28) #[] #[]] w (WhPost w zPg pgR (wholeR (fun L ts => progP fnd L (fuel ts) ts) s)) := by
  obtain ⟨R, hR⟩ : ∃ R, R = wholeR (fun L ts => progP fnd L (fuel ts) ts) s := ⟨_, rfl⟩
  rw [← hR]
  have HR : Hid (R = (none, 4, 0, 0)) := by rw [Hid, hR]; unfold wholeR; rw [if_pos hl]
  clear hR
  have HT := Lib.hid (And.intro T TW)
  have HSC : Hid (∀ W, LTabs W → Calls Tryd.prog 17 #[.string s] W fun e w' => ∃ u, e = .returned (.tuple #[u, .int .i64 4, .agg #[.int .i64 0, .int .i64 0]]) ∧ w'.ownsRow W.heap.size 69 4 u (scanX s).1.length (rowR (scanX s).1) ∧ (u = .slice none 0 0 ↔ (scanX s).1 = []) ∧ Below W.heap.size W w') := fun W TW => by have := scan_row s TW; rw [scan_long hl] at this ⊢; exact this
  have O1 := ((Own.new w 51 zPg).alloc (.cells #[.int .i64 0] 27)).alloc (.cells #[.int .i64 0, .int .i64 0] 29)
  have O2 := (Own.new (w.alloc (.cells zPg 51)) 27 #[.int .i64 0]).alloc (.cells #[.int .i64 0, .int .i64 0] 29)
  have O3 := Own.new ((w.alloc (.cells zPg 51)).alloc (.cells #[.int .i64 0] 27)) 29 #[.int .i64 0, .int .i64 0]
  have B0 : Below w.heap.size w (((w.alloc (.cells zPg 51)).alloc (.cells #[.int .i64 0] 27)).alloc (.cells #[.int .i64 0, .int .i64 0] 29)) := (((Below.refl _ w).alloc (Nat.le_refl _) _).alloc (by simp only [World.size_alloc]; omega) _).alloc (by simp only [World.size_alloc]; omega) _
  have z0 : Hid ((((w.alloc (.cells zPg 51)).alloc (.cells #[.int .i64 0] 27)).alloc (.cells #[.int .i64 0, .int .i64 0] 29)).heap.size = w.heap.size + 3) := by simp only [Hid, World.size_alloc]
  rw [World.size_alloc] at O2
  rw [World.size_alloc, World.size_alloc] at O3
  have hmf : ∀ (fn : Fn) (first cap : Array Value) (w : World), (Instr.makeFunc fn first cap).run Tryd.prog w = .ok (.func fn first cap) w := fun _ _ _ _ => rfl
  clear T TW
  unfold zPg at *
  go_enter_defers Tryd.func27, Tryd.ntmps27
  go_wp2_with fail
  obtain ⟨W0, hW0⟩ : ∃ W, W = (((w.alloc (.cells #[.slice none 0 0, .slice none 0 0, .slice none 0 0] 51)).alloc (.cells #[.int .i64 0] 27)).alloc (.cells #[.int .i64 0, .int .i64 0] 29)) := ⟨_, rfl⟩
  rw [← hW0] at O1 O2 O3 B0 z0 ⊢
  clear hW0
  go_at_call 17
  refine (HSC.out _ (HT.out.1.below (Nat.le_refl _) B0)).mono ?_
  rintro e w1 ⟨u, rfl, hrow, hnil, hb1⟩
  have O1 := O1.below hb1
  have O2 := O2.below hb1
  have O3 := O3.below hb1
  have B1 := Lib.hid (B0.trans (hb1.mono (by have := z0.out; omega)))
  have z1 : Hid (w.heap.size + 3 ≤ w1.heap.size) := by have := hb1.size; have := z0.out; simp only [Hid]; omega
  have e5 : w1.setCell ⟨w.heap.size + 1, 0, none⟩ (.int .i64 4) = w1.setRow (w.heap.size + 1) #[.int .i64 4] := setCell_row O2 0 _
  have O1 := O1.other (g := w.heap.size + 1) #[.int .i64 4] (by omega)
  have O2' := O2.row #[.int .i64 4]
  have O3 := O3.other (g := w.heap.size + 1) #[.int .i64 4] (by omega)
  have c5 : w1.cell? ⟨w.heap.size + 1, 0, none⟩ = some (.int .i64 0) := by rw [cell_of_row _ _ 0 _ _ _ O2]; rfl
  have f5 := own_frozen O2 0
  have O1 := Lib.hid (O1.other (g := w.heap.size + 1 + 1) #[.int .i64 0, .int .i64 0] (by omega))
  have O2 := Lib.hid (O2'.other (g := w.heap.size + 1 + 1) #[.int .i64 0, .int .i64 0] (by omega))
  have O4 := Lib.hid (O3.row #[.int .i64 0, .int .i64 0])
  have B2 := Lib.hid (Below.of_row (Below.of_row B1.out (g := w.heap.size + 1) (by omega) #[.int .i64 4]) (g := w.heap.size + 1 + 1) (by omega) #[.int .i64 0, .int .i64 0])
  have z2 : Hid (((w1.setRow (w.heap.size + 1) #[.int .i64 4]).setRow (w.heap.size + 1 + 1) #[.int .i64 0, .int .i64 0]).heap.size = w1.heap.size) := by rw [Hid, size_setRow, size_setRow]
  have RW : Hid (((w1.setRow (w.heap.size + 1) #[.int .i64 4]).setRow (w.heap.size + 1 + 1) #[.int .i64 0, .int .i64 0]).ownsRow (w.heap.size + 3) 69 4 u (scanX s).1.length (rowR (scanX s).1)) := by
    have hrow := ownsRow_base hrow (base' := w.heap.size + 3) (by have := z0.out; omega)
    exact row_row (row_row hrow _ (fun e => by have := (hrow.lt _ e).1; omega)) _ (fun e => by have := (hrow.lt _ e).1; omega)
  clear hrow B0 O2' z0 hb1
  have HNIL := Lib.hid hnil
  clear hnil
  go_upto_region 2 with (first | (refine st rowFl rfl rfl O3 rfl rfl (by rfl) (by rfl) (by kernel_rfl) ?_))
  obtain ⟨W2, hW2⟩ : ∃ W, W = ((w1.setRow (w.heap.size + 1) #[.int .i64 4]).setRow (w.heap.size + 1 + 1) #[.int .i64 0, .int .i64 0]) := ⟨_, rfl⟩
  rw [← hW2] at O1 O2 O4 B2 z2 RW ⊢
  clear hW2 O3 e5 c5 f5
  have c5 : W2.cell? ⟨w.heap.size + 1, 0, none⟩ = some (.int .i64 4) := by rw [cell_of_row _ _ 0 _ _ _ O2.out]; rfl
  go_upto_region 3 with (fail)
  clear c5
  refine wp_region_held (S := fun W => Own W w.heap.size 51 #[.slice none 0 0, .slice none 0 0, .slice none 0 0] ∧ Own W (w.heap.size + 1) 27 #[.int .i64 4]) (by kernel_rfl) ?_
  change wpAnyH _ _ _ _ _ _ _ _ W2.drew
  have o1 : Own W2.drew _ _ _ := O1.out
  have o2 : Own W2.drew _ _ _ := O2.out
  have o4 : Own W2.drew _ _ _ := O4.out
  have B3 := B2.out.drew
  generalize W2.drew = W3 at o1 o2 o4 B3 ⊢
  have S3 := And.intro o1 o2
  refine dr_take 0 (.agg #[.slice none 0 0, .slice none 0 0, .slice none 0 0]) rfl rfl (by kernel_rfl) (by kernel_rfl) (by kernel_rfl) (fun c a w h => post_put rfl (by decide) c a w _ h) (fun W h => run_ld rowPg rfl rfl h.1 rfl) S3 ?_
  change wpAnyH _ _ _ _ _ _ _ { tmps := #[.string s, .func (.func 28) #[] #[], undef, undef, .pointer (some ⟨w.heap.size, 0, none⟩), .pointer (some ⟨w.heap.size + 1, 0, none⟩), .pointer (some ⟨w.heap.size + 1 + 1, 0, none⟩), u, undef, .tuple #[u, .int .i64 4, .agg #[.int .i64 0, .int .i64 0]], .string s, .tuple #[u, .int .i64 4, .agg #[.int .i64 0, .int .i64 0]], u, .int .i64 4, .agg #[.int .i64 0, .int .i64 0], .int .i64 4, .bool true, .agg #[.slice none 0 0, .slice none 0 0, .slice none 0 0], undef, undef, undef, undef, undef, undef, undef, undef, undef, undef, undef, undef, undef, undef, undef, undef, undef, undef, undef, undef], defers := [] } _
  refine dr_take 1 (.int .i64 4) rfl rfl (by kernel_rfl) (by kernel_rfl) (by kernel_rfl) (fun c a w h => post_put rfl (by decide) c a w _ h) (fun W h => run_ld_err rfl rfl h.2) S3 ?_
  change wpAnyH _ _ _ _ _ _ _ { tmps := #[.string s, .func (.func 28) #[] #[], undef, undef, .pointer (some ⟨w.heap.size, 0, none⟩), .pointer (some ⟨w.heap.size + 1, 0, none⟩), .pointer (some ⟨w.heap.size + 1 + 1, 0, none⟩), u, undef, .tuple #[u, .int .i64 4, .agg #[.int .i64 0, .int .i64 0]], .string s, .tuple #[u, .int .i64 4, .agg #[.int .i64 0, .int .i64 0]], u, .int .i64 4, .agg #[.int .i64 0, .int .i64 0], .int .i64 4, .bool true, .agg #[.slice none 0 0, .slice none 0 0, .slice none 0 0], .int .i64 4, undef, undef, undef, undef, undef, undef, undef, undef, undef, undef, undef, undef, undef, undef, undef, undef, undef, undef, undef], defers := [] } _
  refine dr_take 2 (.agg #[.int .i64 0, .int .i64 0]) rfl rfl (by kernel_rfl) (by kernel_rfl) (by kernel_rfl) (fun c a w h => post_put rfl (by decide) c a w _ h) (fun W h => by unfold execOp; go_simp) S3 ?_
  change wpAnyH _ _ _ _ _ _ _ { tmps := #[.string s, .func (.func 28) #[] #[], undef, undef, .pointer (some ⟨w.heap.size, 0, none⟩), .pointer (some ⟨w.heap.size + 1, 0, none⟩), .pointer (some ⟨w.heap.size + 1 + 1, 0, none⟩), u, undef, .tuple #[u, .int .i64 4, .agg #[.int .i64 0, .int .i64 0]], .string s, .tuple #[u, .int .i64 4, .agg #[.int .i64 0, .int .i64 0]], u, .int .i64 4, .agg #[.int .i64 0, .int .i64 0], .int .i64 4, .bool true, .agg #[.slice none 0 0, .slice none 0 0, .slice none 0 0], .int .i64 4, .agg #[.int .i64 0, .int .i64 0], undef, undef, undef, undef, undef, undef, undef, undef, undef, undef, undef, undef, undef, undef, undef, undef, undef, undef], defers := [] } _
  refine dr_one 3 rfl rfl (by kernel_rfl) ?_
  refine wp_st_row (cs := #[.slice none 0 0, .slice none 0 0, .slice none 0 0]) rowPg rfl o1 rfl rfl rfl rfl (by kernel_rfl) ?_
  have o1 := o1.row #[.slice none 0 0, .slice none 0 0, .slice none 0 0]
  have o2 := o2.other (g := w.heap.size) #[.slice none 0 0, .slice none 0 0, .slice none 0 0] (by omega)
  have o4 := o4.other (g := w.heap.size) #[.slice none 0 0, .slice none 0 0, .slice none 0 0] (by omega)
  have B3 := Below.of_row B3 (g := w.heap.size) (by omega) #[.slice none 0 0, .slice none 0 0, .slice none 0 0]
  refine ⟨⟨o1, o2⟩, ?_⟩
  change wpAnyH _ _ _ _ _ _ _ { tmps := #[.string s, .func (.func 28) #[] #[], undef, undef, .pointer (some ⟨w.heap.size, 0, none⟩), .pointer (some ⟨w.heap.size + 1, 0, none⟩), .pointer (some ⟨w.heap.size + 1 + 1, 0, none⟩), u, undef, .tuple #[u, .int .i64 4, .agg #[.int .i64 0, .int .i64 0]], .string s, .tuple #[u, .int .i64 4, .agg #[.int .i64 0, .int .i64 0]], u, .int .i64 4, .agg #[.int .i64 0, .int .i64 0], .int .i64 4, .bool true, .agg #[.slice none 0 0, .slice none 0 0, .slice none 0 0], .int .i64 4, .agg #[.int .i64 0, .int .i64 0], undef, undef, undef, undef, undef, undef, undef, undef, undef, undef, undef, undef, undef, undef, undef, undef, undef, undef], defers := [] } _
  refine dr_one 4 rfl rfl (by kernel_rfl) ?_
  refine wp_st_errv (u := 4) rfl rfl rfl (by rw [cell_of_row _ _ 0 _ _ _ o2]; rfl) (own_frozen o2 0) ?_
  rw [show (W3.setRow w.heap.size #[.slice none 0 0, .slice none 0 0, .slice none 0 0]).setCell ⟨w.heap.size + 1, 0, none⟩ (.int .i64 4) = (W3.setRow w.heap.size #[.slice none 0 0, .slice none 0 0, .slice none 0 0]).setRow (w.heap.size + 1) #[.int .i64 4] from setCell_row o2 0 _]
  have o1 := o1.other (g := w.heap.size + 1) #[.int .i64 4] (by omega)
  have o2 := o2.row #[.int .i64 4]
  have o4 := o4.other (g := w.heap.size + 1) #[.int .i64 4] (by omega)
  have B3 := Below.of_row B3 (g := w.heap.size + 1) (by omega) #[.int .i64 4]
  refine ⟨⟨o1, o2⟩, ?_⟩
  change wpAnyH _ _ _ _ _ _ _ { tmps := #[.string s, .func (.func 28) #[] #[], undef, undef, .pointer (some ⟨w.heap.size, 0, none⟩), .pointer (some ⟨w.heap.size + 1, 0, none⟩), .pointer (some ⟨w.heap.size + 1 + 1, 0, none⟩), u, undef, .tuple #[u, .int .i64 4, .agg #[.int .i64 0, .int .i64 0]], .string s, .tuple #[u, .int .i64 4, .agg #[.int .i64 0, .int .i64 0]], u, .int .i64 4, .agg #[.int .i64 0, .int .i64 0], .int .i64 4, .bool true, .agg #[.slice none 0 0, .slice none 0 0, .slice none 0 0], .int .i64 4, .agg #[.int .i64 0, .int .i64 0], undef, undef, undef, undef, undef, undef, undef, undef, undef, undef, undef, undef, undef, undef, undef, undef, undef, undef], defers := [] } _
  refine dr_one 5 rfl rfl (by kernel_rfl) ?_
  refine wp_st_row (cs := #[.int .i64 0, .int .i64 0]) rowFl rfl o4 rfl rfl rfl rfl (by kernel_rfl) ?_
  have o1 := Lib.hid (o1.other (g := w.heap.size + 1 + 1) #[.int .i64 0, .int .i64 0] (by omega))
  have o2 := Lib.hid (o2.other (g := w.heap.size + 1 + 1) #[.int .i64 0, .int .i64 0] (by omega))
  have o4 := Lib.hid (o4.row #[.int .i64 0, .int .i64 0])
  have B3 := Lib.hid (Below.of_row B3 (g := w.heap.size + 1 + 1) (by omega) #[.int .i64 0, .int .i64 0])
  refine ⟨⟨o1.out, o2.out⟩, ?_⟩
  clear S3
  refine wpAnyH_done (by kernel_rfl) ?_ _
  go_wp2_with fail
  refine ⟨_, res3 rfl rfl rfl rfl (lv_row rowPg o1.out rfl) (lv_err o2.out) (lv_row rowFl o4.out rfl), B3.out, ?_⟩
  rw [HR.out]
  exact ⟨_, rfl, rfl⟩
set_option maxRecDepth 100000 in
set_option maxHeartbeats 8000000 in
theorem wh_lex_P (s : ByteArray) {w : World} (T : LTabs w) (TW : Tabs w) (hl : ¬ 65536 < s.size) (hf : ¬ (frontR s).2.2 = 0) :
    Calls Tryd.prog 27 #[.string s, .func (.func 28) #[] #[]] w (WhPost w zPg pgR (wholeR (fun L ts => progP fnd L (fuel ts) ts) s)) := by
  obtain ⟨R, hR⟩ : ∃ R, R = wholeR (fun L ts => progP fnd L (fuel ts) ts) s := ⟨_, rfl⟩
  rw [← hR]
  obtain ⟨pa, hpa⟩ : ∃ a, a = (frontR s).2.1 := ⟨_, rfl⟩
  obtain ⟨ru, hru⟩ : ∃ a, a = (frontR s).2.2 := ⟨_, rfl⟩
  have HR : Hid (R = (none, 30, pa, 1)) := by rw [Hid, hR, hpa]; unfold wholeR; rw [if_neg hl, if_pos hf]
  clear hR
  have HT := Lib.hid (And.intro T TW)
  have HSC : Hid (∀ W, LTabs W → Calls Tryd.prog 17 #[.string s] W fun e w' => ∃ u, e = .returned (.tuple #[u, .int .i64 20, .agg #[.int .i64 pa, .int .i64 ru]]) ∧ w'.ownsRow W.heap.size 69 4 u (scanX s).1.length (rowR (scanX s).1) ∧ (u = .slice none 0 0 ↔ (scanX s).1 = []) ∧ Below W.heap.size W w') := fun W TW => by have := scan_row s TW; rw [scan_lex hl hf] at this ⊢; rw [hpa, hru]; exact this
  clear hpa hru hf hl
  have O1 := ((Own.new w 51 zPg).alloc (.cells #[.int .i64 0] 27)).alloc (.cells #[.int .i64 0, .int .i64 0] 29)
  have O2 := (Own.new (w.alloc (.cells zPg 51)) 27 #[.int .i64 0]).alloc (.cells #[.int .i64 0, .int .i64 0] 29)
  have O3 := Own.new ((w.alloc (.cells zPg 51)).alloc (.cells #[.int .i64 0] 27)) 29 #[.int .i64 0, .int .i64 0]
  have B0 : Below w.heap.size w (((w.alloc (.cells zPg 51)).alloc (.cells #[.int .i64 0] 27)).alloc (.cells #[.int .i64 0, .int .i64 0] 29)) := (((Below.refl _ w).alloc (Nat.le_refl _) _).alloc (by simp only [World.size_alloc]; omega) _).alloc (by simp only [World.size_alloc]; omega) _
  have z0 : Hid ((((w.alloc (.cells zPg 51)).alloc (.cells #[.int .i64 0] 27)).alloc (.cells #[.int .i64 0, .int .i64 0] 29)).heap.size = w.heap.size + 3) := by simp only [Hid, World.size_alloc]
  rw [World.size_alloc] at O2
  rw [World.size_alloc, World.size_alloc] at O3
  have hmf : ∀ (fn : Fn) (first cap : Array Value) (w : World), (Instr.makeFunc fn first cap).run Tryd.prog w = .ok (.func fn first cap) w := fun _ _ _ _ => rfl
  clear T TW
  unfold zPg at *
  go_enter_defers Tryd.func27, Tryd.ntmps27
  go_wp2_with fail
  obtain ⟨W0, hW0⟩ : ∃ W, W = (((w.alloc (.cells #[.slice none 0 0, .slice none 0 0, .slice none 0 0] 51)).alloc (.cells #[.int .i64 0] 27)).alloc (.cells #[.int .i64 0, .int .i64 0] 29)) := ⟨_, rfl⟩
  rw [← hW0] at O1 O2 O3 B0 z0 ⊢
  clear hW0
  go_at_call 17
  refine (HSC.out _ (HT.out.1.below (Nat.le_refl _) B0)).mono ?_
  rintro e w1 ⟨u, rfl, hrow, hnil, hb1⟩
  have O1 := O1.below hb1
  have O2 := O2.below hb1
  have O3 := O3.below hb1
  have B1 := Lib.hid (B0.trans (hb1.mono (by have := z0.out; omega)))
  have z1 : Hid (w.heap.size + 3 ≤ w1.heap.size) := by have := hb1.size; have := z0.out; simp only [Hid]; omega
  have e5 : w1.setCell ⟨w.heap.size + 1, 0, none⟩ (.int .i64 20) = w1.setRow (w.heap.size + 1) #[.int .i64 20] := setCell_row O2 0 _
  have O1 := O1.other (g := w.heap.size + 1) #[.int .i64 20] (by omega)
  have O2' := O2.row #[.int .i64 20]
  have O3 := O3.other (g := w.heap.size + 1) #[.int .i64 20] (by omega)
  have c5 : w1.cell? ⟨w.heap.size + 1, 0, none⟩ = some (.int .i64 0) := by rw [cell_of_row _ _ 0 _ _ _ O2]; rfl
  have f5 := own_frozen O2 0
  have O1 := Lib.hid (O1.other (g := w.heap.size + 1 + 1) #[.int .i64 pa, .int .i64 ru] (by omega))
  have O2 := Lib.hid (O2'.other (g := w.heap.size + 1 + 1) #[.int .i64 pa, .int .i64 ru] (by omega))
  have O4 := Lib.hid (O3.row #[.int .i64 pa, .int .i64 ru])
  have B2 := Lib.hid (Below.of_row (Below.of_row B1.out (g := w.heap.size + 1) (by omega) #[.int .i64 20]) (g := w.heap.size + 1 + 1) (by omega) #[.int .i64 pa, .int .i64 ru])
  have z2 : Hid (((w1.setRow (w.heap.size + 1) #[.int .i64 20]).setRow (w.heap.size + 1 + 1) #[.int .i64 pa, .int .i64 ru]).heap.size = w1.heap.size) := by rw [Hid, size_setRow, size_setRow]
  have RW : Hid (((w1.setRow (w.heap.size + 1) #[.int .i64 20]).setRow (w.heap.size + 1 + 1) #[.int .i64 pa, .int .i64 ru]).ownsRow (w.heap.size + 3) 69 4 u (scanX s).1.length (rowR (scanX s).1)) := by
    have hrow := ownsRow_base hrow (base' := w.heap.size + 3) (by have := z0.out; omega)
    exact row_row (row_row hrow _ (fun e => by have := (hrow.lt _ e).1; omega)) _ (fun e => by have := (hrow.lt _ e).1; omega)
  clear hrow B0 O2' z0 hb1
  have HNIL := Lib.hid hnil
  clear hnil
  go_upto_region 2 with (first | (refine st rowFl rfl rfl O3 rfl rfl (by rfl) (by rfl) (by kernel_rfl) ?_))
  obtain ⟨W2, hW2⟩ : ∃ W, W = ((w1.setRow (w.heap.size + 1) #[.int .i64 20]).setRow (w.heap.size + 1 + 1) #[.int .i64 pa, .int .i64 ru]) := ⟨_, rfl⟩
  rw [← hW2] at O1 O2 O4 B2 z2 RW ⊢
  clear hW2 O3 e5 c5 f5
  have c5 : W2.cell? ⟨w.heap.size + 1, 0, none⟩ = some (.int .i64 20) := by rw [cell_of_row _ _ 0 _ _ _ O2.out]; rfl
  go_upto_region 5 with (fail)
  clear c5
  refine wp_region_held (S := fun W => Own W w.heap.size 51 #[.slice none 0 0, .slice none 0 0, .slice none 0 0] ∧ W.cell? ⟨w.heap.size + 1 + 1, 0, none⟩ = some (.int .i64 pa)) (by kernel_rfl) ?_
  change wpAnyH _ _ _ _ _ _ _ _ W2.drew
  have o1 : Own W2.drew _ _ _ := O1.out
  have o2 : Own W2.drew _ _ _ := O2.out
  have o4 : Own W2.drew _ _ _ := O4.out
  have B3 := B2.out.drew
  generalize W2.drew = W3 at o1 o2 o4 B3 ⊢
  have S3 : Own W3 w.heap.size 51 #[.slice none 0 0, .slice none 0 0, .slice none 0 0] ∧ W3.cell? ⟨w.heap.size + 1 + 1, 0, none⟩ = some (.int .i64 pa) := ⟨o1, by rw [cell_of_row _ _ 0 _ _ _ o4]; rfl⟩
  refine dr_take 0 (.agg #[.slice none 0 0, .slice none 0 0, .slice none 0 0]) rfl rfl (by kernel_rfl) (by kernel_rfl) (by kernel_rfl) (fun c a w h => post_put rfl (by decide) c a w _ h) (fun W h => run_ld rowPg rfl rfl h.1 rfl) S3 ?_
  change wpAnyH _ _ _ _ _ _ _ { tmps := #[.string s, .func (.func 28) #[] #[], undef, undef, .pointer (some ⟨w.heap.size, 0, none⟩), .pointer (some ⟨w.heap.size + 1, 0, none⟩), .pointer (some ⟨w.heap.size + 1 + 1, 0, none⟩), u, undef, .tuple #[u, .int .i64 20, .agg #[.int .i64 pa, .int .i64 ru]], .string s, .tuple #[u, .int .i64 20, .agg #[.int .i64 pa, .int .i64 ru]], u, .int .i64 20, .agg #[.int .i64 pa, .int .i64 ru], .int .i64 20, .bool false, undef, undef, undef, .int .i64 20, .bool true, .agg #[.slice none 0 0, .slice none 0 0, .slice none 0 0], undef, undef, undef, undef, undef, undef, undef, undef, undef, undef, undef, undef, undef, undef, undef], defers := [] } _
  refine dr_take 1 (.pointer (some ⟨w.heap.size + 1 + 1, 0, none⟩)) rfl rfl (by kernel_rfl) (by kernel_rfl) (by kernel_rfl) (fun c a w h => post_put rfl (by decide) c a w _ h) (fun W h => by unfold execOp; go_simp) S3 ?_
  change wpAnyH _ _ _ _ _ _ _ { tmps := #[.string s, .func (.func 28) #[] #[], undef, undef, .pointer (some ⟨w.heap.size, 0, none⟩), .pointer (some ⟨w.heap.size + 1, 0, none⟩), .pointer (some ⟨w.heap.size + 1 + 1, 0, none⟩), u, undef, .tuple #[u, .int .i64 20, .agg #[.int .i64 pa, .int .i64 ru]], .string s, .tuple #[u, .int .i64 20, .agg #[.int .i64 pa, .int .i64 ru]], u, .int .i64 20, .agg #[.int .i64 pa, .int .i64 ru], .int .i64 20, .bool false, undef, undef, undef, .int .i64 20, .bool true, .agg #[.slice none 0 0, .slice none 0 0, .slice none 0 0], .pointer (some ⟨w.heap.size + 1 + 1, 0, none⟩), undef, undef, undef, undef, undef, undef, undef, undef, undef, undef, undef, undef, undef, undef], defers := [] } _
  refine dr_take 2 (.int .i64 pa) rfl rfl (by kernel_rfl) (by kernel_rfl) (by kernel_rfl) (fun c a w h => post_put rfl (by decide) c a w _ h) (fun W h => run_ld_int rfl rfl h.2) S3 ?_
  change wpAnyH _ _ _ _ _ _ _ { tmps := #[.string s, .func (.func 28) #[] #[], undef, undef, .pointer (some ⟨w.heap.size, 0, none⟩), .pointer (some ⟨w.heap.size + 1, 0, none⟩), .pointer (some ⟨w.heap.size + 1 + 1, 0, none⟩), u, undef, .tuple #[u, .int .i64 20, .agg #[.int .i64 pa, .int .i64 ru]], .string s, .tuple #[u, .int .i64 20, .agg #[.int .i64 pa, .int .i64 ru]], u, .int .i64 20, .agg #[.int .i64 pa, .int .i64 ru], .int .i64 20, .bool false, undef, undef, undef, .int .i64 20, .bool true, .agg #[.slice none 0 0, .slice none 0 0, .slice none 0 0], .pointer (some ⟨w.heap.size + 1 + 1, 0, none⟩), .int .i64 pa, undef, undef, undef, undef, undef, undef, undef, undef, undef, undef, undef, undef, undef], defers := [] } _
  refine dr_take 3 (.agg #[.int .i64 pa, .int .i64 1]) rfl rfl (by kernel_rfl) (by kernel_rfl) (by kernel_rfl) (fun c a w h => post_put rfl (by decide) c a w _ h) (fun W h => by unfold execOp; go_simp) S3 ?_
  change wpAnyH _ _ _ _ _ _ _ { tmps := #[.string s, .func (.func 28) #[] #[], undef, undef, .pointer (some ⟨w.heap.size, 0, none⟩), .pointer (some ⟨w.heap.size + 1, 0, none⟩), .pointer (some ⟨w.heap.size + 1 + 1, 0, none⟩), u, undef, .tuple #[u, .int .i64 20, .agg #[.int .i64 pa, .int .i64 ru]], .string s, .tuple #[u, .int .i64 20, .agg #[.int .i64 pa, .int .i64 ru]], u, .int .i64 20, .agg #[.int .i64 pa, .int .i64 ru], .int .i64 20, .bool false, undef, undef, undef, .int .i64 20, .bool true, .agg #[.slice none 0 0, .slice none 0 0, .slice none 0 0], .pointer (some ⟨w.heap.size + 1 + 1, 0, none⟩), .int .i64 pa, .agg #[.int .i64 pa, .int .i64 1], undef, undef, undef, undef, undef, undef, undef, undef, undef, undef, undef, undef], defers := [] } _
  refine dr_one 4 rfl rfl (by kernel_rfl) ?_
  refine wp_st_row (cs := #[.slice none 0 0, .slice none 0 0, .slice none 0 0]) rowPg rfl o1 rfl rfl rfl rfl (by kernel_rfl) ?_
  have o1 := o1.row #[.slice none 0 0, .slice none 0 0, .slice none 0 0]
  have o2 := o2.other (g := w.heap.size) #[.slice none 0 0, .slice none 0 0, .slice none 0 0] (by omega)
  have o4 := o4.other (g := w.heap.size) #[.slice none 0 0, .slice none 0 0, .slice none 0 0] (by omega)
  have B3 := Below.of_row B3 (g := w.heap.size) (by omega) #[.slice none 0 0, .slice none 0 0, .slice none 0 0]
  refine ⟨⟨o1, by rw [cell_of_row _ _ 0 _ _ _ o4]; rfl⟩, ?_⟩
  change wpAnyH _ _ _ _ _ _ _ { tmps := #[.string s, .func (.func 28) #[] #[], undef, undef, .pointer (some ⟨w.heap.size, 0, none⟩), .pointer (some ⟨w.heap.size + 1, 0, none⟩), .pointer (some ⟨w.heap.size + 1 + 1, 0, none⟩), u, undef, .tuple #[u, .int .i64 20, .agg #[.int .i64 pa, .int .i64 ru]], .string s, .tuple #[u, .int .i64 20, .agg #[.int .i64 pa, .int .i64 ru]], u, .int .i64 20, .agg #[.int .i64 pa, .int .i64 ru], .int .i64 20, .bool false, undef, undef, undef, .int .i64 20, .bool true, .agg #[.slice none 0 0, .slice none 0 0, .slice none 0 0], .pointer (some ⟨w.heap.size + 1 + 1, 0, none⟩), .int .i64 pa, .agg #[.int .i64 pa, .int .i64 1], undef, undef, undef, undef, undef, undef, undef, undef, undef, undef, undef, undef], defers := [] } _
  refine dr_one 5 rfl rfl (by kernel_rfl) ?_
  refine wp_st_err (u := 20) rfl rfl (by rw [cell_of_row _ _ 0 _ _ _ o2]; rfl) (own_frozen o2 0) ?_
  rw [show (W3.setRow w.heap.size #[.slice none 0 0, .slice none 0 0, .slice none 0 0]).setCell ⟨w.heap.size + 1, 0, none⟩ (.int .i64 30) = (W3.setRow w.heap.size #[.slice none 0 0, .slice none 0 0, .slice none 0 0]).setRow (w.heap.size + 1) #[.int .i64 30] from setCell_row o2 0 _]
  have o1 := o1.other (g := w.heap.size + 1) #[.int .i64 30] (by omega)
  have o2 := o2.row #[.int .i64 30]
  have o4 := o4.other (g := w.heap.size + 1) #[.int .i64 30] (by omega)
  have B3 := Below.of_row B3 (g := w.heap.size + 1) (by omega) #[.int .i64 30]
  refine ⟨⟨o1, by rw [cell_of_row _ _ 0 _ _ _ o4]; rfl⟩, ?_⟩
  change wpAnyH _ _ _ _ _ _ _ { tmps := #[.string s, .func (.func 28) #[] #[], undef, undef, .pointer (some ⟨w.heap.size, 0, none⟩), .pointer (some ⟨w.heap.size + 1, 0, none⟩), .pointer (some ⟨w.heap.size + 1 + 1, 0, none⟩), u, undef, .tuple #[u, .int .i64 20, .agg #[.int .i64 pa, .int .i64 ru]], .string s, .tuple #[u, .int .i64 20, .agg #[.int .i64 pa, .int .i64 ru]], u, .int .i64 20, .agg #[.int .i64 pa, .int .i64 ru], .int .i64 20, .bool false, undef, undef, undef, .int .i64 20, .bool true, .agg #[.slice none 0 0, .slice none 0 0, .slice none 0 0], .pointer (some ⟨w.heap.size + 1 + 1, 0, none⟩), .int .i64 pa, .agg #[.int .i64 pa, .int .i64 1], undef, undef, undef, undef, undef, undef, undef, undef, undef, undef, undef, undef], defers := [] } _
  refine dr_one 6 rfl rfl (by kernel_rfl) ?_
  refine wp_st_row (cs := #[.int .i64 pa, .int .i64 1]) rowFl rfl o4 rfl rfl rfl rfl (by kernel_rfl) ?_
  have o1 := Lib.hid (o1.other (g := w.heap.size + 1 + 1) #[.int .i64 pa, .int .i64 1] (by omega))
  have o2 := Lib.hid (o2.other (g := w.heap.size + 1 + 1) #[.int .i64 pa, .int .i64 1] (by omega))
  have o4 := Lib.hid (o4.row #[.int .i64 pa, .int .i64 1])
  have B3 := Lib.hid (Below.of_row B3 (g := w.heap.size + 1 + 1) (by omega) #[.int .i64 pa, .int .i64 1])
  refine ⟨⟨o1.out, by rw [cell_of_row _ _ 0 _ _ _ o4.out]; rfl⟩, ?_⟩
  clear S3
  refine wpAnyH_done (by kernel_rfl) ?_ _
  go_wp2_with fail
  refine ⟨_, res3 rfl rfl rfl rfl (lv_row rowPg o1.out rfl) (lv_err o2.out) (lv_row rowFl o4.out rfl), B3.out, ?_⟩
  rw [HR.out]
  exact ⟨_, rfl, rfl⟩
set_option maxRecDepth 100000 in
set_option maxHeartbeats 8000000 in
theorem wh_go_P (s : ByteArray) {w : World} (T : LTabs w) (TW : Tabs w) (hl : ¬ 65536 < s.size) (hf : (frontR s).2.2 = 0) :
    Calls Tryd.prog 27 #[.string s, .func (.func 28) #[] #[]] w (WhPost w zPg pgR (wholeR (fun L ts => progP fnd L (fuel ts) ts) s)) := by
  obtain ⟨R, hR⟩ : ∃ R, R = wholeR (fun L ts => progP fnd L (fuel ts) ts) s := ⟨_, rfl⟩
  rw [← hR]
  obtain ⟨toks, hto⟩ : ∃ l, l = (scanX s).1 := ⟨_, rfl⟩
  obtain ⟨Y, hY⟩ : ∃ Y, Y = progP fnd (s.size : Int) (fuel (toks.map Res.tk)) (toks.map Res.tk) := ⟨_, rfl⟩
  have HR : Hid (R = endR (endP Y)) := by rw [Hid, hR, hY, hto]; unfold wholeR; rw [if_neg hl, if_neg (by simpa using hf)]
  have HTK : Hid (toks.length ≤ 65536 ∧ s.size ≤ 65536 ∧ ∀ x ∈ toks, 0 ≤ x.wd ∧ x.wd ≤ 9223372036854775807) := ⟨by rw [hto]; exact scanX_len s, by omega, by rw [hto]; exact scanX_wd s⟩
  clear hR
  have HT := Lib.hid (And.intro T TW)
  have HSC : Hid (∀ W, LTabs W → Calls Tryd.prog 17 #[.string s] W fun e w' => ∃ u, e = .returned (.tuple #[u, .int .i64 0, .agg #[.int .i64 0, .int .i64 0]]) ∧ w'.ownsRow W.heap.size 69 4 u (scanX s).1.length (rowR (scanX s).1) ∧ (u = .slice none 0 0 ↔ (scanX s).1 = []) ∧ Below W.heap.size W w') := fun W TW => by have := scan_row s TW; rw [scan_toks hl hf] at this ⊢; exact this
  have O1 := ((Own.new w 51 zPg).alloc (.cells #[.int .i64 0] 27)).alloc (.cells #[.int .i64 0, .int .i64 0] 29)
  have O2 := (Own.new (w.alloc (.cells zPg 51)) 27 #[.int .i64 0]).alloc (.cells #[.int .i64 0, .int .i64 0] 29)
  have O3 := Own.new ((w.alloc (.cells zPg 51)).alloc (.cells #[.int .i64 0] 27)) 29 #[.int .i64 0, .int .i64 0]
  have B0 : Below w.heap.size w (((w.alloc (.cells zPg 51)).alloc (.cells #[.int .i64 0] 27)).alloc (.cells #[.int .i64 0, .int .i64 0] 29)) := (((Below.refl _ w).alloc (Nat.le_refl _) _).alloc (by simp only [World.size_alloc]; omega) _).alloc (by simp only [World.size_alloc]; omega) _
  have z0 : Hid ((((w.alloc (.cells zPg 51)).alloc (.cells #[.int .i64 0] 27)).alloc (.cells #[.int .i64 0, .int .i64 0] 29)).heap.size = w.heap.size + 3) := by simp only [Hid, World.size_alloc]
  rw [World.size_alloc] at O2
  rw [World.size_alloc, World.size_alloc] at O3
  have hmf : ∀ (fn : Fn) (first cap : Array Value) (w : World), (Instr.makeFunc fn first cap).run Tryd.prog w = .ok (.func fn first cap) w := fun _ _ _ _ => rfl
  clear T TW
  unfold zPg at *
  rw [← hto] at HSC
  clear hl hf hto
  have HY := Lib.hid hY
  clear hY
  go_enter_defers Tryd.func27, Tryd.ntmps27
  go_wp2_with fail
  obtain ⟨W0, hW0⟩ : ∃ W, W = (((w.alloc (.cells #[.slice none 0 0, .slice none 0 0, .slice none 0 0] 51)).alloc (.cells #[.int .i64 0] 27)).alloc (.cells #[.int .i64 0, .int .i64 0] 29)) := ⟨_, rfl⟩
  rw [← hW0] at O1 O2 O3 B0 z0 ⊢
  clear hW0
  go_at_call 17
  refine (HSC.out _ (HT.out.1.below (Nat.le_refl _) B0)).mono ?_
  rintro e w1 ⟨u, rfl, hrow, hnil, hb1⟩
  have O1 := O1.below hb1
  have O2 := O2.below hb1
  have O3 := O3.below hb1
  have B1 := Lib.hid (B0.trans (hb1.mono (by have := z0.out; omega)))
  have z1 : Hid (w.heap.size + 3 ≤ w1.heap.size) := by have := hb1.size; have := z0.out; simp only [Hid]; omega
  have e5 : w1.setCell ⟨w.heap.size + 1, 0, none⟩ (.int .i64 0) = w1.setRow (w.heap.size + 1) #[.int .i64 0] := setCell_row O2 0 _
  have O1 := O1.other (g := w.heap.size + 1) #[.int .i64 0] (by omega)
  have O2' := O2.row #[.int .i64 0]
  have O3 := O3.other (g := w.heap.size + 1) #[.int .i64 0] (by omega)
  have c5 : w1.cell? ⟨w.heap.size + 1, 0, none⟩ = some (.int .i64 0) := by rw [cell_of_row _ _ 0 _ _ _ O2]; rfl
  have f5 := own_frozen O2 0
  have O1 := Lib.hid (O1.other (g := w.heap.size + 1 + 1) #[.int .i64 0, .int .i64 0] (by omega))
  have O2 := Lib.hid (O2'.other (g := w.heap.size + 1 + 1) #[.int .i64 0, .int .i64 0] (by omega))
  have O4 := Lib.hid (O3.row #[.int .i64 0, .int .i64 0])
  have B2 := Lib.hid (Below.of_row (Below.of_row B1.out (g := w.heap.size + 1) (by omega) #[.int .i64 0]) (g := w.heap.size + 1 + 1) (by omega) #[.int .i64 0, .int .i64 0])
  have z2 : Hid (((w1.setRow (w.heap.size + 1) #[.int .i64 0]).setRow (w.heap.size + 1 + 1) #[.int .i64 0, .int .i64 0]).heap.size = w1.heap.size) := by rw [Hid, size_setRow, size_setRow]
  have RW : Hid (((w1.setRow (w.heap.size + 1) #[.int .i64 0]).setRow (w.heap.size + 1 + 1) #[.int .i64 0, .int .i64 0]).ownsRow (w.heap.size + 3) 69 4 u toks.length (rowR toks)) := by
    have hrow := ownsRow_base hrow (base' := w.heap.size + 3) (by have := z0.out; omega)
    exact row_row (row_row hrow _ (fun e => by have := (hrow.lt _ e).1; omega)) _ (fun e => by have := (hrow.lt _ e).1; omega)
  clear hrow B0 O2' z0 hb1
  have HNIL := Lib.hid hnil
  clear hnil
  go_upto_region 2 with (first | (refine st rowFl rfl rfl O3 rfl rfl (by rfl) (by rfl) (by kernel_rfl) ?_))
  obtain ⟨W2, hW2⟩ : ∃ W, W = ((w1.setRow (w.heap.size + 1) #[.int .i64 0]).setRow (w.heap.size + 1 + 1) #[.int .i64 0, .int .i64 0]) := ⟨_, rfl⟩
  rw [← hW2] at O1 O2 O4 B2 z2 RW ⊢
  clear hW2 O3 e5 c5 f5
  have c5 : W2.cell? ⟨w.heap.size + 1, 0, none⟩ = some (.int .i64 0) := by rw [cell_of_row _ _ 0 _ _ _ O2.out]; rfl
  obtain ⟨oa, cap, rfl, hoa⟩ := row_shape RW.out
  have HLT : Hid (∀ g off, oa = some ⟨g, off, none⟩ → w.heap.size + 3 ≤ g ∧ g < W2.heap.size) := by
    intro g off e
    subst e
    rcases RW.out.2 with ⟨h, _⟩ | ⟨g', cap', cur, h, h2, h3, _⟩
    · cases h
    · cases h
      exact ⟨h2, (Array.getElem?_eq_some_iff.1 h3).1⟩
  have LT2 := Lib.hid (HT.out.2.below (Nat.le_refl _) B2.out)
  have HNW := Lib.hid (p_new (L := s.size) (tokRow_owns RW.out) (fun g off e => (HLT.out g off e).2) LT2.out HTK.out)
  obtain ⟨c, hc⟩ : ∃ c, c = newC W2 oa cap toks s.size := ⟨_, rfl⟩
  rw [← hc] at HNW
  have HC := Lib.hid hc
  have z3 : Hid (w.heap.size + 3 ≤ W2.heap.size) := by have := z1.out; have := z2.out; simp only [Hid]; omega
  have cX : Hid (c.X = W2.heap.size) := by rw [hc]; rfl
  have cL : Hid (c.L = s.size ∧ c.at 0 = toks.map Res.tk) := by rw [hc]; exact ⟨rfl, rfl⟩
  have HEX : Hid (∀ W, Rd c W 0 → Calls Tryd.prog 28 #[c.ptr] W (RdPost c W Y (fun p v w' => pgR W.heap.size p v w'))) := fun W RW => by
    have := p_program (n := fuel (toks.map Res.tk)) RW (by rw [cL.out.2]; unfold fuel; omega)
    rw [cL.out.2, cL.out.1] at this
    rw [HY.out]
    exact this
  have HEN : Hid (∀ W k, Rd c W k → Calls Tryd.prog 20 #[c.ptr] W fun e w' => Fr c W w' ∧ e = match c.at k with | [] => .returned (.tuple #[]) | t :: _ => .panicked (flt t.pos 2)) := fun W k RW => p_end RW
  have HRW : Hid (∀ W k cs, Rd c W k → Rd c (W.setRow w.heap.size cs) k) := fun W k cs RW => RW.setRow cs (by rw [hc]; simp only [newC]; have := z3.out; omega) (fun b off e => by have := (HLT.out b off (by rw [hc] at e; exact e)).1; omega) (by have h1 := HT.out.2.size1; have h2 := HT.out.2.size2; omega)
  clear hc hoa
  unfold Par.ptr at *
  go_wp2_with fail
  go_at_call 19
  refine HNW.out.mono ?_
  rintro e w3 ⟨rfl, hb3, hR3⟩
  have O1 := Lib.hid (O1.out.below hb3)
  have O2 := Lib.hid (O2.out.below hb3)
  have O4 := Lib.hid (O4.out.below hb3)
  have B3 := Lib.hid (B2.out.trans (hb3.mono (by have := z3.out; omega)))
  have R3 := Lib.hid hR3
  have z4 : Hid (w.heap.size + 3 ≤ w3.heap.size) := by have := hb3.size; have := z3.out; simp only [Hid]; omega
  clear hb3 hR3 c5
  go_wp2_with fail
  go_at_call 28
  refine (HEX.out _ R3.out).mono ?_
  rintro e w4 ⟨hf4, hm⟩
  have xX : Hid (c.X ≠ w.heap.size ∧ c.X ≠ w.heap.size + 1 ∧ c.X ≠ w.heap.size + 1 + 1 ∧ w.heap.size ≤ c.X) := by have := z3.out; have := cX.out; simp only [Hid]; omega
  have O1 := Lib.hid (O1.out.fr hf4 xX.out.1)
  have O2 := Lib.hid (O2.out.fr hf4 xX.out.2.1)
  have O4 := Lib.hid (O4.out.fr hf4 xX.out.2.2.1)
  have B4 : Hid (Below w.heap.size w w4) := B3.out.trans (fr_below hf4 xX.out.2.2.2 (by have := z4.out; omega))
  rcases Y with ⟨x, r⟩ | ⟨p, q⟩
  rotate_left
  · obtain rfl := hm
    clear hf4
    go_wp2_with fail
    refine leaves_cons (f := 49) (args := #[.pointer (some ⟨w.heap.size, 0, none⟩), .pointer (some ⟨w.heap.size + 1, 0, none⟩), .pointer (some ⟨w.heap.size + 1 + 1, 0, none⟩)]) (by simp) (by simp [go_sem]) ?_
    refine (catch_pg (n := w.heap.size) O1.out rfl O2.out O4.out rfl (by omega) (by omega)).mono ?_
    rintro e u' w5 ⟨rfl, rfl, q1, q2, q3, hb⟩
    refine ⟨_, res3 rfl rfl rfl rfl (lv_row rowPg q1 rfl) (lv_err q2) (lv_row rowFl q3 rfl), B4.out.trans hb, ?_⟩
    rw [HR.out]
    exact ⟨_, rfl, rfl⟩
  obtain ⟨v, k4, rfl, hV, hR4, rfl⟩ := hm
  have z5 : Hid (w.heap.size + 3 ≤ w4.heap.size ∧ w3.heap.size ≤ w4.heap.size) := by have := Keep.size hf4; have := z4.out; simp only [Hid]; omega
  have HV := Lib.hid hV
  obtain ⟨a1, c1, a2, c2, a3, c3, rfl, _⟩ := hV
  obtain ⟨VV, hVV⟩ : ∃ VV : Array Value, VV = #[.slice a1 x.shared.length c1, .slice a2 x.locks.length c2, .slice a3 x.threads.length c3] := ⟨_, rfl⟩
  have VS : Hid (VV.size = zPg.size) := by rw [hVV]; rfl
  have P1 := Lib.hid (O1.out.row VV)
  have P2 := Lib.hid (O2.out.other (g := w.heap.size) VV (by omega))
  have P4 := Lib.hid (O4.out.other (g := w.heap.size) VV (by omega))
  have B5 := Lib.hid (Below.of_row B4.out (g := w.heap.size) (Nat.le_refl _) VV)
  have R5 := Lib.hid (HRW.out _ _ VV hR4)
  have V5 : Hid (pgR w3.heap.size x (.agg VV) (w4.setRow w.heap.size VV)) := by rw [hVV]; exact pgR_stays HV.out (stays_row w4 _ (fun b hb => by have := z4.out; omega)) (Nat.le_refl _)
  clear hf4 hR4
  have o1 := O1.out
  subst hVV
  go_wp2_with (first | (refine st rowPg rfl rfl o1 rfl rfl (by rfl) (by rfl) (by kernel_rfl) ?_))
  clear o1
  go_at_call 20
  refine (HEN.out _ _ R5.out).mono ?_
  rintro e w6 ⟨hf6, he⟩
  have z6 : Hid (w.heap.size + 3 ≤ w6.heap.size) := by have := Keep.size hf6; rw [size_setRow] at this; have := z5.out; simp only [Hid]; omega
  have P1 := Lib.hid (P1.out.fr hf6 xX.out.1)
  have P2 := Lib.hid (P2.out.fr hf6 xX.out.2.1)
  have P4 := Lib.hid (P4.out.fr hf6 xX.out.2.2.1)
  have B6 : Hid (Below w.heap.size w w6) := B5.out.trans (fr_below hf6 xX.out.2.2.2 (by rw [size_setRow]; have := z5.out; omega))
  have V6 : Hid (pgR w3.heap.size x (.agg #[.slice a1 x.shared.length c1, .slice a2 x.locks.length c2, .slice a3 x.threads.length c3]) w6) := pgR_stays V5.out (stays_fr hf6 (fun b hb => by have h1 := hb; have h2 := R3.out.lt; change w3.heap.size ≤ b at h1; omega)) (Nat.le_refl _)
  have HR : Hid (R = match c.at k4 with | [] => (some x, 0, 0, 0) | t :: _ => (none, 30, t.pos, 2)) := by
    rw [Hid, HR.out]
    show endR (match c.at k4 with | [] => PR.ok x [] | t :: _ => PR.bad t.pos 2) = _
    cases c.at k4 <;> rfl
  clear hf6
  generalize c.at k4 = ts at he HR
  cases ts with
  | cons t r =>
    subst he
    go_wp2_with fail
    refine leaves_cons (f := 49) (args := #[.pointer (some ⟨w.heap.size, 0, none⟩), .pointer (some ⟨w.heap.size + 1, 0, none⟩), .pointer (some ⟨w.heap.size + 1 + 1, 0, none⟩)]) (by simp) (by simp [go_sem]) ?_
    refine (catch_pg (n := w.heap.size) P1.out VS.out P2.out P4.out rfl (by omega) (by omega)).mono ?_
    rintro e u' w7 ⟨rfl, rfl, q1, q2, q3, hb⟩
    refine ⟨_, res3 rfl rfl rfl rfl (lv_row rowPg q1 rfl) (lv_err q2) (lv_row rowFl q3 rfl), B6.out.trans hb, ?_⟩
    rw [HR.out]
    exact ⟨_, rfl, rfl⟩
  | nil =>
    subst he
    have p1 := P1.out
    have e7 : (w6.setRow w.heap.size #[.slice a1 x.shared.length c1, .slice a2 x.locks.length c2, .slice a3 x.threads.length c3]).setCell ⟨w.heap.size + 1, 0, none⟩ (.int .i64 0) = (w6.setRow w.heap.size #[.slice a1 x.shared.length c1, .slice a2 x.locks.length c2, .slice a3 x.threads.length c3]).setRow (w.heap.size + 1) #[.int .i64 0] := setCell_row (P2.out.other (g := w.heap.size) #[.slice a1 x.shared.length c1, .slice a2 x.locks.length c2, .slice a3 x.threads.length c3] (by omega)) 0 _
    have c7 : (w6.setRow w.heap.size #[.slice a1 x.shared.length c1, .slice a2 x.locks.length c2, .slice a3 x.threads.length c3]).cell? ⟨w.heap.size + 1, 0, none⟩ = some (.int .i64 0) := by rw [cell_of_row _ _ 0 _ _ _ (P2.out.other (g := w.heap.size) #[.slice a1 x.shared.length c1, .slice a2 x.locks.length c2, .slice a3 x.threads.length c3] (by omega))]; rfl
    have f7 := own_frozen (P2.out.other (g := w.heap.size) #[.slice a1 x.shared.length c1, .slice a2 x.locks.length c2, .slice a3 x.threads.length c3] (by omega)) 0
    have q1 := Lib.hid (((P1.out.row #[.slice a1 x.shared.length c1, .slice a2 x.locks.length c2, .slice a3 x.threads.length c3]).other (g := w.heap.size + 1) #[.int .i64 0] (by omega)).other (g := w.heap.size + 1 + 1) #[.int .i64 0, .int .i64 0] (by omega))
    have q2 := Lib.hid (((P2.out.other (g := w.heap.size) #[.slice a1 x.shared.length c1, .slice a2 x.locks.length c2, .slice a3 x.threads.length c3] (by omega)).row #[.int .i64 0]).other (g := w.heap.size + 1 + 1) #[.int .i64 0, .int .i64 0] (by omega))
    have p4 := (P4.out.other (g := w.heap.size) #[.slice a1 x.shared.length c1, .slice a2 x.locks.length c2, .slice a3 x.threads.length c3] (by omega)).other (g := w.heap.size + 1) #[.int .i64 0] (by omega)
    have q4 := Lib.hid (p4.row #[.int .i64 0, .int .i64 0])
    have B7 := Lib.hid (Below.of_row (Below.of_row (Below.of_row B6.out (g := w.heap.size) (Nat.le_refl _) #[.slice a1 x.shared.length c1, .slice a2 x.locks.length c2, .slice a3 x.threads.length c3]) (g := w.heap.size + 1) (by omega) #[.int .i64 0]) (g := w.heap.size + 1 + 1) (by omega) #[.int .i64 0, .int .i64 0])
    have V7 : Hid (pgR w.heap.size x (.agg #[.slice a1 x.shared.length c1, .slice a2 x.locks.length c2, .slice a3 x.threads.length c3]) (((w6.setRow w.heap.size #[.slice a1 x.shared.length c1, .slice a2 x.locks.length c2, .slice a3 x.threads.length c3]).setRow (w.heap.size + 1) #[.int .i64 0]).setRow (w.heap.size + 1 + 1) #[.int .i64 0, .int .i64 0])) := pgR_stays V6.out (((stays_row w6 _ (fun b hb => by have := z4.out; change w3.heap.size ≤ b at hb; omega)).trans (stays_row _ _ (fun b hb => by have := z4.out; change w3.heap.size ≤ b at hb; omega))).trans (stays_row _ _ (fun b hb => by have := z4.out; change w3.heap.size ≤ b at hb; omega))) (by have := z4.out; omega)
    go_wp2_with (first | (refine ld rowPg rfl rfl rfl p1 rfl ?_) | (refine st rowPg rfl rfl p1 rfl rfl (by rfl) (by rfl) (by kernel_rfl) ?_) | (refine st rowFl rfl rfl p4 rfl rfl (by rfl) (by rfl) (by kernel_rfl) ?_))
    refine leaves_cons (f := 49) (args := #[.pointer (some ⟨w.heap.size, 0, none⟩), .pointer (some ⟨w.heap.size + 1, 0, none⟩), .pointer (some ⟨w.heap.size + 1 + 1, 0, none⟩)]) (by simp) (by simp [go_sem]) ?_
    refine (idle_P _ _ _ _).mono ?_
    rintro e u' w8 ⟨rfl, rfl, rfl⟩
    refine ⟨_, res3 rfl rfl rfl rfl (lv_row rowPg q1.out rfl) (lv_err q2.out) (lv_row rowFl q4.out rfl), B7.out, ?_⟩
    rw [HR.out]
    exact ⟨_, rfl, V7.out⟩
/-- A whole text. -/
theorem p_whole_P (s : ByteArray) {w : World} (T : LTabs w) (TW : Tabs w) :
    Calls Tryd.prog 27 #[.string s, .func (.func 28) #[] #[]] w (WhPost w zPg pgR (wholeR (fun L ts => progP fnd L (fuel ts) ts) s)) := by
  by_cases hl : 65536 < s.size
  · exact wh_long_P s T TW hl
  · by_cases hf : (frontR s).2.2 = 0
    · exact wh_go_P s T TW hl hf
    · exact wh_lex_P s T TW hl hf
end Go.Proofs.YtgaibdipecngkaaDoor

namespace Go.Proofs.YtgaibdipecngkaaDoor
open Go.RowKit
set_option linter.unusedVariables false
def said_E (s : ByteArray) := wholeR (fun L ts => binE fnd L (fuel ts) 1 0 ts) s
set_option maxRecDepth 100000 in
set_option maxHeartbeats 4000000 in
theorem p_Expr (s : ByteArray) {w : World} (T : LTabs w) (TW : Tabs w) : Calls Tryd.prog 4 #[.string s] w (WhPost w zEx exR (said_E s)) := by
  have HW : Hid (∀ W, LTabs W → Tabs W → Calls Tryd.prog 9 #[.string s, .func (.func 10) #[] #[]] W (WhPost W zEx exR (said_E s))) := fun W T TW => p_whole_E s T TW
  generalize said_E s = R at HW ⊢
  have O1 := (Own.new w 26 zEx).alloc (.cells #[.int .i64 0, .int .i64 0] 29)
  have O2 := Own.new (w.alloc (.cells zEx 26)) 29 #[.int .i64 0, .int .i64 0]
  have B0 : Below w.heap.size w ((w.alloc (.cells zEx 26)).alloc (.cells #[.int .i64 0, .int .i64 0] 29)) := ((Below.refl _ w).alloc (Nat.le_refl _) _).alloc (by simp only [World.size_alloc]; omega) _
  have z0 : Hid (((w.alloc (.cells zEx 26)).alloc (.cells #[.int .i64 0, .int .i64 0] 29)).heap.size = w.heap.size + 2) := by simp only [Hid, World.size_alloc]
  rw [World.size_alloc] at O2
  have T2 := Lib.hid (T.below (Nat.le_refl _) B0)
  have TW2 := Lib.hid (TW.below (Nat.le_refl _) B0)
  clear T TW
  unfold zEx at *
  go_enter Tryd.func4, Tryd.ntmps4
  go_wp2_with fail
  obtain ⟨W0, hW0⟩ : ∃ W, W = ((w.alloc (.cells #[.int .u8 0, .int .u8 0, .int .i64 0, .string ⟨#[]⟩, .slice none 0 0, .int .i64 0] 26)).alloc (.cells #[.int .i64 0, .int .i64 0] 29)) := ⟨_, rfl⟩
  rw [← hW0] at O1 O2 B0 z0 T2 TW2 ⊢
  clear hW0
  go_at_call 9
  refine (HW.out _ T2.out TW2.out).mono ?_
  rintro e w1 ⟨hb, v, rfl, hv⟩
  obtain ⟨r1, r2, r3, r4⟩ := R
  have O1 := O1.below hb
  have O2 := O2.below hb
  have B1 := Lib.hid (B0.trans (hb.mono (by have := z0.out; omega)))
  have z1 : Hid (w.heap.size + 2 ≤ w1.heap.size) := by have := hb.size; have := z0.out; simp only [Hid]; omega
  clear hb B0
  cases r1 with
  | none =>
    obtain rfl : v = .agg #[.int .u8 0, .int .u8 0, .int .i64 0, .string ⟨#[]⟩, .slice none 0 0, .int .i64 0] := hv
    have o2 := O2.other (g := w.heap.size) #[.int .u8 0, .int .u8 0, .int .i64 0, .string ⟨#[]⟩, .slice none 0 0, .int .i64 0] (by omega)
    have p1 := Lib.hid ((O1.row #[.int .u8 0, .int .u8 0, .int .i64 0, .string ⟨#[]⟩, .slice none 0 0, .int .i64 0]).other (g := w.heap.size + 1) #[.int .i64 r3, .int .i64 r4] (by omega))
    have p2 := Lib.hid (o2.row #[.int .i64 r3, .int .i64 r4])
    have B2 := Lib.hid (Below.of_row (Below.of_row B1.out (g := w.heap.size) (Nat.le_refl _) #[.int .u8 0, .int .u8 0, .int .i64 0, .string ⟨#[]⟩, .slice none 0 0, .int .i64 0]) (g := w.heap.size + 1) (by omega) #[.int .i64 r3, .int .i64 r4])
    go_wp2_with (first | (refine st rowEx rfl rfl O1 rfl rfl (by rfl) (by rfl) (by kernel_rfl) ?_) | (refine st rowFl rfl rfl o2 rfl rfl (by rfl) (by rfl) (by kernel_rfl) ?_))
    refine bodyPost_ret (res2 rfl rfl rfl rfl (lv_row rowEx p1.out rfl) (lv_row rowFl p2.out rfl)) rfl ⟨B2.out, _, rfl, rfl⟩
  | some x =>
    have hv : exR W0.heap.size x v w1 := hv
    have HV := Lib.hid hv
    obtain ⟨a6, c6, rfl, _⟩ := hv
    have o2 := O2.other (g := w.heap.size) #[.int .u8 x.kind, .int .u8 x.op, .int .i64 x.wd, .string x.name, .slice a6 x.kids.length c6, .int .i64 x.pos] (by omega)
    have p1 := Lib.hid ((O1.row #[.int .u8 x.kind, .int .u8 x.op, .int .i64 x.wd, .string x.name, .slice a6 x.kids.length c6, .int .i64 x.pos]).other (g := w.heap.size + 1) #[.int .i64 r3, .int .i64 r4] (by omega))
    have p2 := Lib.hid (o2.row #[.int .i64 r3, .int .i64 r4])
    have B2 := Lib.hid (Below.of_row (Below.of_row B1.out (g := w.heap.size) (Nat.le_refl _) #[.int .u8 x.kind, .int .u8 x.op, .int .i64 x.wd, .string x.name, .slice a6 x.kids.length c6, .int .i64 x.pos]) (g := w.heap.size + 1) (by omega) #[.int .i64 r3, .int .i64 r4])
    have V2 : Hid (exR w.heap.size x (.agg #[.int .u8 x.kind, .int .u8 x.op, .int .i64 x.wd, .string x.name, .slice a6 x.kids.length c6, .int .i64 x.pos]) ((w1.setRow w.heap.size #[.int .u8 x.kind, .int .u8 x.op, .int .i64 x.wd, .string x.name, .slice a6 x.kids.length c6, .int .i64 x.pos]).setRow (w.heap.size + 1) #[.int .i64 r3, .int .i64 r4])) := exR_stays HV.out ((stays_row w1 _ (fun b hb => by have := z0.out; omega)).trans (stays_row _ _ (fun b hb => by have := z0.out; omega))) (by have := z0.out; omega)
    go_wp2_with (first | (refine st rowEx rfl rfl O1 rfl rfl (by rfl) (by rfl) (by kernel_rfl) ?_) | (refine st rowFl rfl rfl o2 rfl rfl (by rfl) (by rfl) (by kernel_rfl) ?_))
    refine bodyPost_ret (res2 rfl rfl rfl rfl (lv_row rowEx p1.out rfl) (lv_row rowFl p2.out rfl)) rfl ⟨B2.out, _, rfl, V2.out⟩
def said_P (s : ByteArray) := wholeR (fun L ts => progP fnd L (fuel ts) ts) s
set_option maxRecDepth 100000 in
set_option maxHeartbeats 4000000 in
theorem p_Parse (s : ByteArray) {w : World} (T : LTabs w) (TW : Tabs w) : Calls Tryd.prog 15 #[.string s] w (WhPost w zPg pgR (said_P s)) := by
  have HW : Hid (∀ W, LTabs W → Tabs W → Calls Tryd.prog 27 #[.string s, .func (.func 28) #[] #[]] W (WhPost W zPg pgR (said_P s))) := fun W T TW => p_whole_P s T TW
  generalize said_P s = R at HW ⊢
  have O1 := (Own.new w 51 zPg).alloc (.cells #[.int .i64 0, .int .i64 0] 29)
  have O2 := Own.new (w.alloc (.cells zPg 51)) 29 #[.int .i64 0, .int .i64 0]
  have B0 : Below w.heap.size w ((w.alloc (.cells zPg 51)).alloc (.cells #[.int .i64 0, .int .i64 0] 29)) := ((Below.refl _ w).alloc (Nat.le_refl _) _).alloc (by simp only [World.size_alloc]; omega) _
  have z0 : Hid (((w.alloc (.cells zPg 51)).alloc (.cells #[.int .i64 0, .int .i64 0] 29)).heap.size = w.heap.size + 2) := by simp only [Hid, World.size_alloc]
  rw [World.size_alloc] at O2
  have T2 := Lib.hid (T.below (Nat.le_refl _) B0)
  have TW2 := Lib.hid (TW.below (Nat.le_refl _) B0)
  clear T TW
  unfold zPg at *
  go_enter Tryd.func15, Tryd.ntmps15
  go_wp2_with fail
  obtain ⟨W0, hW0⟩ : ∃ W, W = ((w.alloc (.cells #[.slice none 0 0, .slice none 0 0, .slice none 0 0] 51)).alloc (.cells #[.int .i64 0, .int .i64 0] 29)) := ⟨_, rfl⟩
  rw [← hW0] at O1 O2 B0 z0 T2 TW2 ⊢
  clear hW0
  go_at_call 27
  refine (HW.out _ T2.out TW2.out).mono ?_
  rintro e w1 ⟨hb, v, rfl, hv⟩
  obtain ⟨r1, r2, r3, r4⟩ := R
  have O1 := O1.below hb
  have O2 := O2.below hb
  have B1 := Lib.hid (B0.trans (hb.mono (by have := z0.out; omega)))
  have z1 : Hid (w.heap.size + 2 ≤ w1.heap.size) := by have := hb.size; have := z0.out; simp only [Hid]; omega
  clear hb B0
  cases r1 with
  | none =>
    obtain rfl : v = .agg #[.slice none 0 0, .slice none 0 0, .slice none 0 0] := hv
    have o2 := O2.other (g := w.heap.size) #[.slice none 0 0, .slice none 0 0, .slice none 0 0] (by omega)
    have p1 := Lib.hid ((O1.row #[.slice none 0 0, .slice none 0 0, .slice none 0 0]).other (g := w.heap.size + 1) #[.int .i64 r3, .int .i64 r4] (by omega))
    have p2 := Lib.hid (o2.row #[.int .i64 r3, .int .i64 r4])
    have B2 := Lib.hid (Below.of_row (Below.of_row B1.out (g := w.heap.size) (Nat.le_refl _) #[.slice none 0 0, .slice none 0 0, .slice none 0 0]) (g := w.heap.size + 1) (by omega) #[.int .i64 r3, .int .i64 r4])
    go_wp2_with (first | (refine st rowPg rfl rfl O1 rfl rfl (by rfl) (by rfl) (by kernel_rfl) ?_) | (refine st rowFl rfl rfl o2 rfl rfl (by rfl) (by rfl) (by kernel_rfl) ?_))
    refine bodyPost_ret (res2 rfl rfl rfl rfl (lv_row rowPg p1.out rfl) (lv_row rowFl p2.out rfl)) rfl ⟨B2.out, _, rfl, rfl⟩
  | some x =>
    have hv : pgR W0.heap.size x v w1 := hv
    have HV := Lib.hid hv
    obtain ⟨a1, c1, a2, c2, a3, c3, rfl, _⟩ := hv
    have o2 := O2.other (g := w.heap.size) #[.slice a1 x.shared.length c1, .slice a2 x.locks.length c2, .slice a3 x.threads.length c3] (by omega)
    have p1 := Lib.hid ((O1.row #[.slice a1 x.shared.length c1, .slice a2 x.locks.length c2, .slice a3 x.threads.length c3]).other (g := w.heap.size + 1) #[.int .i64 r3, .int .i64 r4] (by omega))
    have p2 := Lib.hid (o2.row #[.int .i64 r3, .int .i64 r4])
    have B2 := Lib.hid (Below.of_row (Below.of_row B1.out (g := w.heap.size) (Nat.le_refl _) #[.slice a1 x.shared.length c1, .slice a2 x.locks.length c2, .slice a3 x.threads.length c3]) (g := w.heap.size + 1) (by omega) #[.int .i64 r3, .int .i64 r4])
    have V2 : Hid (pgR w.heap.size x (.agg #[.slice a1 x.shared.length c1, .slice a2 x.locks.length c2, .slice a3 x.threads.length c3]) ((w1.setRow w.heap.size #[.slice a1 x.shared.length c1, .slice a2 x.locks.length c2, .slice a3 x.threads.length c3]).setRow (w.heap.size + 1) #[.int .i64 r3, .int .i64 r4])) := pgR_stays HV.out ((stays_row w1 _ (fun b hb => by have := z0.out; omega)).trans (stays_row _ _ (fun b hb => by have := z0.out; omega))) (by have := z0.out; omega)
    go_wp2_with (first | (refine st rowPg rfl rfl O1 rfl rfl (by rfl) (by rfl) (by kernel_rfl) ?_) | (refine st rowFl rfl rfl o2 rfl rfl (by rfl) (by rfl) (by kernel_rfl) ?_))
    refine bodyPost_ret (res2 rfl rfl rfl rfl (lv_row rowPg p1.out rfl) (lv_row rowFl p2.out rfl)) rfl ⟨B2.out, _, rfl, V2.out⟩
end Go.Proofs.YtgaibdipecngkaaDoor

namespace Go.Proofs.YtgaibdipecngkaaDoor
open Go.RowKit
set_option linter.unusedVariables false
theorem rowRd : RowT 46 5 := ⟨_, Tryd.underlying46, rfl, by kernel_rfl⟩
theorem res4 {fn : Func} {V : TypeId} {i j k : Tmp} (h : fn.results = #[.tmp i, .tmp j, .cell k V]) {tmps : Array Value} {P : Program} {w : World} {d : Addr} {x y z : Value} (ha : tmps.getD i undef = x) (hb : tmps.getD j undef = y) (hd : tmps.getD k undef = .pointer (some d))
    (h3 : (loadVar V d).run P w = .ok z w) : (results fn tmps).run P w = .ok (.tuple #[x, y, z]) w := by
  have ha' : tmps[i]?.getD undef = x := by simpa using ha
  have hb' : tmps[j]?.getD undef = y := by simpa using hb
  have hd' : tmps[k]?.getD undef = .pointer (some d) := by simpa using hd
  simp [results, h, ha', hb', hd', asAddr, h3, Result.andThen]
theorem Own.set2 {W : World} {b : Nat} {T : TypeId} {x y : Value} (h : Own W b T #[x, y]) (u v : Value) : Own ((W.setCell ⟨b, 0, none⟩ u).setCell ⟨b, 1, none⟩ v) b T #[u, v] := by
  have h1 := heap_setCell_same W b 0 _ _ u h
  exact heap_setCell_same _ b 1 _ _ v h1
/-- How begun ends. -/
def BgPost (s : ByteArray) (w : World) (e : Ending) (w' : World) : Prop :=
  Below w.heap.size w w' ∧
  if 65536 < s.size then e = .returned (.tuple #[.pointer none, .int .i64 4, .agg #[.int .i64 0, .int .i64 0]])
  else if ¬ (frontR s).2.2 = 0 then e = .returned (.tuple #[.pointer none, .int .i64 30, .agg #[.int .i64 (frontR s).2.1, .int .i64 1]])
  else ∃ c : Par, e = .returned (.tuple #[c.ptr, .int .i64 0, .agg #[.int .i64 0, .int .i64 0]]) ∧ w.heap.size ≤ c.X ∧ c.toks = (scanX s).1 ∧ c.L = s.size ∧ Rk c w' 0 0 0
set_option maxRecDepth 100000 in
set_option maxHeartbeats 4000000 in
theorem r_begun (s : ByteArray) (w : World) : Calls Tryd.prog 11 #[.string s] w (BgPost s w) := by
  unfold BgPost
  have O0 := Own.new w 29 #[.int .i64 0, .int .i64 0]
  by_cases hl : 65536 < s.size
  · have hl' : (65536 : Int) < (s.size : Int) := by omega
    go_enter Tryd.func11, Tryd.ntmps11
    go_wp2_with (first | (refine st rowFl rfl rfl O0 rfl rfl (by rfl) (by rfl) (by kernel_rfl) ?_))
    have p1 := O0.row #[.int .i64 0, .int .i64 0]
    refine bodyPost_ret (res4 rfl rfl rfl rfl (lv_row rowFl p1 rfl)) rfl ⟨Below.of_row ((Below.refl _ w).alloc (Nat.le_refl _) _) (Nat.le_refl _) _, ?_⟩
    first | (rw [if_pos hl]; rfl) | rfl
  · have hl' : ¬ (65536 : Int) < (s.size : Int) := by omega
    have HSC : Hid (∀ W : World, Calls Tryd.prog 22 #[.string s] W fun e w' => ∃ u, e = .returned (.tuple #[u, .int .i64 (scanX s).2.1, .agg #[.int .i64 (scanX s).2.2.1, .int .i64 (scanX s).2.2.2]]) ∧ w'.ownsRow W.heap.size 69 4 u (scanX s).1.length (rowR (scanX s).1) ∧ (u = .slice none 0 0 ↔ (scanX s).1 = []) ∧ Below W.heap.size W w') := fun W => rscan_row s W
    have HLEN := Lib.hid (scanX_len s)
    have HWD := Lib.hid (scanX_wd s)
    simp only [if_neg hl]
    by_cases hf : (frontR s).2.2 = 0
    · have e1 : (scanX s).2.1 = 0 := by unfold scanX; rw [if_neg hl, if_pos hf]
      have e2 : (scanX s).2.2.1 = 0 := by unfold scanX; rw [if_neg hl, if_pos hf]
      have e3 : (scanX s).2.2.2 = 0 := by unfold scanX; rw [if_neg hl, if_pos hf]
      rw [e1, e2, e3] at HSC
      simp only [hf, not_true_eq_false, if_false]
      generalize (scanX s).1 = ts at *
      have hz6 : s.size ≤ 65536 := by omega
      clear e1 e2 e3 hf hl
      go_enter Tryd.func11, Tryd.ntmps11
      go_wp2_with fail
      go_at_call 22
      refine (HSC.out _).mono ?_
      rintro e w1 ⟨u, rfl, hrow, hnil, hb⟩
      obtain ⟨oa, cap, rfl, hoa⟩ := row_shape hrow
      have HROW := Lib.hid hrow
      have O0 := O0.below hb
      have O2 := Own.new w1 29 #[.int .i64 0, .int .i64 0]
      have B1 : Hid (Below w.heap.size w ((w1.alloc (.cells #[.int .i64 0, .int .i64 0] 29)).setRow w1.heap.size #[.int .i64 0, .int .i64 0])) :=
        Below.of_row ((((Below.refl _ w).alloc (Nat.le_refl _) (.cells #[.int .i64 0, .int .i64 0] 29)).trans (hb.mono (by simp))).alloc (by have := hb.size; simp at this; omega) _) (by have := hb.size; simp at this; omega) _
      have hlt1 := Lib.hid O0.lt
      have O0 := Lib.hid ((O0.alloc (.cells #[.int .i64 0, .int .i64 0] 29)).other (g := w1.heap.size) #[.int .i64 0, .int .i64 0] (by have := O0.lt; omega))
      have B2 : Hid (Below w1.heap.size w1 ((w1.alloc (.cells #[.int .i64 0, .int .i64 0] 29)).setRow w1.heap.size #[.int .i64 0, .int .i64 0])) := Below.of_row ((Below.refl _ w1).alloc (Nat.le_refl _) _) (Nat.le_refl _) _
      have hz : Hid (((w1.alloc (.cells #[.int .i64 0, .int .i64 0] 29)).setRow w1.heap.size #[.int .i64 0, .int .i64 0]).heap.size = w1.heap.size + 1) := by simp only [Hid, size_setRow, World.size_alloc]
      have HOA := Lib.hid hoa
      clear hb hrow hnil hoa
      go_upto_region 4 with (first | (refine st rowFl rfl rfl O2 rfl rfl (by rfl) (by rfl) (by kernel_rfl) ?_))
      obtain ⟨W2, hW2⟩ : ∃ W, W = ((w1.alloc (.cells #[.int .i64 0, .int .i64 0] 29)).setRow w1.heap.size #[.int .i64 0, .int .i64 0]) := ⟨_, rfl⟩
      rw [← hW2] at B1 B2 O0 hz ⊢
      clear hW2 O2
      have N3 := Lib.hid (Own.new W2 46 #[.slice oa ts.length cap, .int .i64 0, .int .i64 (s.size : Int), .int .i64 0, .int .i64 0])
      have R0 := O0.out.alloc (.cells #[.slice oa ts.length cap, .int .i64 0, .int .i64 (s.size : Int), .int .i64 0, .int .i64 0] 46)
      go_wp2_with (first | (refine st rowFl rfl rfl R0 rfl rfl (by rfl) (by rfl) (by kernel_rfl) ?_))
      have p1 := R0.row #[.int .i64 0, .int .i64 0]
      have hlt := hlt1.out
      have hzz := hz.out
      have hbs := B1.out.size
      refine bodyPost_ret (res4 rfl rfl rfl rfl (lv_row rowFl p1 rfl)) rfl ⟨Below.of_row (B1.out.alloc hbs _) (Nat.le_refl _) _, ?_⟩
      refine ⟨⟨W2.heap.size, oa, cap, ts, s.size, 0, 0, 0, 0, 0⟩, rfl, hbs, rfl, rfl, ⟨?_, ?_, ⟨HLEN.out, hz6, HWD.out⟩⟩, ?_, Nat.zero_le _⟩
      · have hT := tokRow_owns HROW.out
        obtain ⟨oa', cap', hu, hc⟩ := hT
        refine ⟨oa', cap', hu, fun i x hx => ?_⟩
        obtain ⟨g, off, ho, a0, a1, a2, a3⟩ := hc i x hx
        have hg : g < w1.heap.size := lt_of_at a0
        have hne : g ≠ w.heap.size := by
          intro e
          obtain ⟨rfl, _, _⟩ : oa = oa' ∧ ts.length = ts.length ∧ cap = cap' := by cases hu; exact ⟨rfl, rfl, rfl⟩
          obtain ⟨g', hg', hge⟩ := HOA.out (by rintro h0; rw [List.length_eq_zero_iff.1 h0] at hx; simp at hx)
          rw [ho] at hg'
          have : g = g' := by cases hg'; rfl
          simp at hge
          omega
        have st : ∀ o v, w1.cell? ⟨g, o, none⟩ = some v → ((W2.alloc (.cells #[.slice oa ts.length cap, .int .i64 0, .int .i64 (s.size : Int), .int .i64 0, .int .i64 0] 46)).setRow w.heap.size #[.int .i64 0, .int .i64 0]).cell? ⟨g, o, none⟩ = some v := fun o v hv => by
          have k1 := (B2.out.cell (p := ⟨g, o, none⟩) hg).trans hv
          exact ((stays_alloc (fun b => b = g) W2 _).trans (stays_row _ (g := w.heap.size) #[.int .i64 0, .int .i64 0] (fun b hb => by omega))) g o v rfl k1
        exact ⟨g, off, ho, st _ _ a0, st _ _ a1, st _ _ a2, st _ _ a3⟩
      · intro g off hg
        have hr := HROW.out
        rcases hr.2 with ⟨h2, _⟩ | ⟨g', cap', cur, hv, hg', hlv, _⟩
        · have : oa = none := by injection h2
          rw [this] at hg; cases hg
        · have : oa = some ⟨g', 0, none⟩ := by injection hv
          rw [this] at hg
          have : g' = g := by cases hg; rfl
          have := (Array.getElem?_eq_some_iff.1 hlv).1
          show g ≠ W2.heap.size
          omega
      · exact (setRow_other _ (show W2.heap.size ≠ w.heap.size by omega)).trans N3.out
    · have e1 : (scanX s).2.1 = 20 := by unfold scanX; rw [if_neg hl, if_neg hf]
      have e2 : (scanX s).2.2.1 = (frontR s).2.1 := by unfold scanX; rw [if_neg hl, if_neg hf]
      have e3 : (scanX s).2.2.2 = (frontR s).2.2 := by unfold scanX; rw [if_neg hl, if_neg hf]
      rw [e1, e2, e3] at HSC
      have hf' : (¬ (frontR s).2.2 = 0) = True := by simpa using hf
      simp only [hf', if_true]
      generalize (frontR s).2.1 = fa at *
      generalize (frontR s).2.2 = fr at *
      generalize (scanX s).1 = ts at *
      clear e1 e2 e3 hf hl hf'
      go_enter Tryd.func11, Tryd.ntmps11
      go_wp2_with fail
      go_at_call 22
      refine (HSC.out _).mono ?_
      rintro e w1 ⟨u, rfl, hrow, hnil, hb⟩
      obtain ⟨oa, cap, rfl, hoa⟩ := row_shape hrow
      have O0 := O0.below hb
      have O2 := Own.new w1 29 #[.int .i64 0, .int .i64 0]
      have P2 := Lib.hid (O2.row #[.int .i64 fa, .int .i64 fr])
      have B1 : Hid (Below w.heap.size w ((w1.alloc (.cells #[.int .i64 0, .int .i64 0] 29)).setRow w1.heap.size #[.int .i64 fa, .int .i64 fr])) :=
        Below.of_row ((((Below.refl _ w).alloc (Nat.le_refl _) (.cells #[.int .i64 0, .int .i64 0] 29)).trans (hb.mono (by simp))).alloc (by have := hb.size; simp at this; omega) _) (by have := hb.size; simp at this; omega) _
      have O0 := Lib.hid ((O0.alloc (.cells #[.int .i64 0, .int .i64 0] 29)).other (g := w1.heap.size) #[.int .i64 fa, .int .i64 fr] (by have := O0.lt; omega))
      clear hb hrow hnil hoa
      go_upto_region 4 with (first | (refine st rowFl rfl rfl O2 rfl rfl (by rfl) (by rfl) (by kernel_rfl) ?_))
      obtain ⟨W2, hW2⟩ : ∃ W, W = ((w1.alloc (.cells #[.int .i64 0, .int .i64 0] 29)).setRow w1.heap.size #[.int .i64 fa, .int .i64 fr]) := ⟨_, rfl⟩
      rw [← hW2] at B1 O0 P2 ⊢
      clear hW2 O2
      have f0 : W2.cell? ⟨w1.heap.size, 0, none⟩ = some (.int .i64 fa) := by rw [cell_of_row _ _ 0 _ _ _ P2.out]; rfl
      obtain ⟨⟨b0, b1⟩, b2, b3⟩ := row2 O0.out
      go_wp2_with fail
      go_region
      go_wp2_with fail
      have p1 := (O0.out.set2 (.int .i64 fa) (.int .i64 1)).drewN 1
      have hbs := B1.out.size
      refine bodyPost_ret (res4 rfl rfl rfl rfl (lv_row rowFl p1 rfl)) rfl ⟨?_, by rfl⟩
      exact below_drewN (((B1.out).setCell (p := ⟨w.heap.size, 0, none⟩) (Nat.le_refl _) _).setCell (p := ⟨w.heap.size, 1, none⟩) (Nat.le_refl _) _) 1
end Go.Proofs.YtgaibdipecngkaaDoor

namespace Go.Proofs.YtgaibdipecngkaaDoor
open Go.RowKit
set_option linter.unusedVariables false
theorem Own.set6 {W : World} {b : Nat} {T : TypeId} {x0 x1 x2 x3 x4 x5 : Value} (h : Own W b T #[x0, x1, x2, x3, x4, x5]) (u0 u1 u2 u3 u4 u5 : Value) :
    Own ((((((W.setCell ⟨b, 0, none⟩ u0).setCell ⟨b, 1, none⟩ u1).setCell ⟨b, 2, none⟩ u2).setCell ⟨b, 3, none⟩ u3).setCell ⟨b, 4, none⟩ u4).setCell ⟨b, 5, none⟩ u5) b T #[u0, u1, u2, u3, u4, u5] :=
  heap_setCell_same _ b 5 _ _ u5 (heap_setCell_same _ b 4 _ _ u4 (heap_setCell_same _ b 3 _ _ u3 (heap_setCell_same _ b 2 _ _ u2 (heap_setCell_same _ b 1 _ _ u1 (heap_setCell_same W b 0 _ _ u0 h)))))
theorem Own.away {W : World} {b : Nat} {T : TypeId} {cs : Array Value} (h : Own W b T cs) {x : Nat} (hx : x ≠ b) (j : Nat) (v : Value) : Own (W.setCell ⟨x, j, none⟩ v) b T cs := h.setX j v hx
theorem row6 {w : World} {g : Nat} {T : TypeId} {a b c d e f : Value} (h : Own w g T #[a, b, c, d, e, f]) :
    (w.cell? ⟨g, 0, none⟩ = some a ∧ w.cell? ⟨g, 1, none⟩ = some b ∧ w.cell? ⟨g, 2, none⟩ = some c ∧ w.cell? ⟨g, 3, none⟩ = some d ∧ w.cell? ⟨g, 4, none⟩ = some e ∧ w.cell? ⟨g, 5, none⟩ = some f) ∧
    (w.frozen? ⟨g, 0, none⟩ = false ∧ w.frozen? ⟨g, 1, none⟩ = false ∧ w.frozen? ⟨g, 2, none⟩ = false ∧ w.frozen? ⟨g, 3, none⟩ = false ∧ w.frozen? ⟨g, 4, none⟩ = false ∧ w.frozen? ⟨g, 5, none⟩ = false) :=
  ⟨⟨cell_of_row w g 0 _ _ _ h, cell_of_row w g 1 _ _ _ h, cell_of_row w g 2 _ _ _ h, cell_of_row w g 3 _ _ _ h, cell_of_row w g 4 _ _ _ h, cell_of_row w g 5 _ _ _ h⟩, frozen_of_row w g 0 _ _ h, frozen_of_row w g 1 _ _ h, frozen_of_row w g 2 _ _ h, frozen_of_row w g 3 _ _ h, frozen_of_row w g 4 _ _ h, frozen_of_row w g 5 _ _ h⟩
set_option maxRecDepth 100000 in
set_option maxHeartbeats 1000000 in
theorem r_ok_same {c : Par} {w : World} {σ : Sr} (R : Rs c w σ) : Calls Tryd.prog 13 #[c.ptr] w fun e w' => e = .returned (.bool σ.ok) ∧ w' = w := by
  obtain ⟨k, R, _⟩ := R
  obtain ⟨⟨_, _, _, _, c4⟩, _⟩ := (Ak.start R).cells
  have hX := R.lt
  clear R
  unfold Par.ptr Sr.ok
  go_enter Tryd.func13, Tryd.ntmps13
  go_wp2
  go_ret
  exact ⟨rfl, rfl⟩
theorem Rs.drewN {c : Par} {w : World} {σ : Sr} (R : Rs c w σ) (n : Nat) : Rs c (w.drewN n) σ := by
  obtain ⟨k, R, h⟩ := R
  exact ⟨k, ⟨R.s.keep (Keep.drewN (Fr.refl c w) n), R.pos, R.le⟩, h⟩
/-- Six cells and two that are set. -/
theorem below_set8 {B : Nat} {a W : World} (h : Below B a W) {g g' : Nat} (hg : B ≤ g) (hg' : B ≤ g') (u0 u1 u2 u3 u4 u5 v0 v1 : Value) :
    Below B a ((((((((W.setCell ⟨g, 0, none⟩ u0).setCell ⟨g, 1, none⟩ u1).setCell ⟨g, 2, none⟩ u2).setCell ⟨g, 3, none⟩ u3).setCell ⟨g, 4, none⟩ u4).setCell ⟨g, 5, none⟩ u5).setCell ⟨g', 0, none⟩ v0).setCell ⟨g', 1, none⟩ v1) :=
  (((((((h.setCell (p := ⟨g, 0, none⟩) hg _).setCell (p := ⟨g, 1, none⟩) hg _).setCell (p := ⟨g, 2, none⟩) hg _).setCell (p := ⟨g, 3, none⟩) hg _).setCell (p := ⟨g, 4, none⟩) hg _).setCell (p := ⟨g, 5, none⟩) hg _).setCell (p := ⟨g', 0, none⟩) hg' _).setCell (p := ⟨g', 1, none⟩) hg' _

set_option maxRecDepth 100000 in
set_option maxHeartbeats 4000000 in
theorem rx_bad {s : ByteArray} {w : World} {y p q : Int} (hy : (y != 0) = true) (HB : ∀ W, Calls Tryd.prog 11 #[.string s] W fun e w' => e = .returned (.tuple #[.pointer none, .int .i64 y, .agg #[.int .i64 p, .int .i64 q]]) ∧ Below W.heap.size W w') :
    Calls Tryd.prog 5 #[.string s] w (WhPost w zEx exR (none, y, p, q)) := by
  have HB := Lib.hid HB
  have O1 := (Own.new w 26 #[.int .u8 0, .int .u8 0, .int .i64 0, .string ⟨#[]⟩, .slice none 0 0, .int .i64 0]).alloc (.cells #[.int .i64 0, .int .i64 0] 29)
  have O2 := Own.new (w.alloc (.cells #[.int .u8 0, .int .u8 0, .int .i64 0, .string ⟨#[]⟩, .slice none 0 0, .int .i64 0] 26)) 29 #[.int .i64 0, .int .i64 0]
  have B0 : Below w.heap.size w ((w.alloc (.cells #[.int .u8 0, .int .u8 0, .int .i64 0, .string ⟨#[]⟩, .slice none 0 0, .int .i64 0] 26)).alloc (.cells #[.int .i64 0, .int .i64 0] 29)) := ((Below.refl _ w).alloc (Nat.le_refl _) _).alloc (by simp only [World.size_alloc]; omega) _
  have z0 : Hid (((w.alloc (.cells #[.int .u8 0, .int .u8 0, .int .i64 0, .string ⟨#[]⟩, .slice none 0 0, .int .i64 0] 26)).alloc (.cells #[.int .i64 0, .int .i64 0] 29)).heap.size = w.heap.size + 2) := by simp only [Hid, World.size_alloc]
  rw [World.size_alloc] at O2
  go_enter Tryd.func5, Tryd.ntmps5
  go_wp2_with fail
  obtain ⟨W0, hW0⟩ : ∃ W, W = ((w.alloc (.cells #[.int .u8 0, .int .u8 0, .int .i64 0, .string ⟨#[]⟩, .slice none 0 0, .int .i64 0] 26)).alloc (.cells #[.int .i64 0, .int .i64 0] 29)) := ⟨_, rfl⟩
  rw [← hW0] at O1 O2 B0 z0 ⊢
  clear hW0
  go_at_call 11
  refine (HB.out _).mono ?_
  rintro e w1 ⟨rfl, hb⟩
  have O1 := O1.below hb
  have O2 := O2.below hb
  have B1 := B0.trans (hb.mono (by have := z0.out; omega))
  have z1 : Hid (w.heap.size + 2 ≤ w1.heap.size) := by have := hb.size; have := z0.out; simp only [Hid]; omega
  have O7 := Own.new w1 29 #[.int .i64 0, .int .i64 0]
  have P7 := Lib.hid (O7.row #[.int .i64 p, .int .i64 q])
  have zz := z1.out
  have B2 := Lib.hid (Below.of_row (B1.alloc B1.size (.cells #[.int .i64 0, .int .i64 0] 29)) (g := w1.heap.size) B1.size #[.int .i64 p, .int .i64 q])
  have O1 := Lib.hid ((O1.alloc (.cells #[.int .i64 0, .int .i64 0] 29)).other (g := w1.heap.size) #[.int .i64 p, .int .i64 q] (by omega))
  have O2 := Lib.hid ((O2.alloc (.cells #[.int .i64 0, .int .i64 0] 29)).other (g := w1.heap.size) #[.int .i64 p, .int .i64 q] (by omega))
  have B7 := Lib.hid (Below.of_row ((Below.refl _ w1).alloc (Nat.le_refl _) (.cells #[.int .i64 0, .int .i64 0] 29)) (g := w1.heap.size) (Nat.le_refl _) #[.int .i64 p, .int .i64 q])
  clear hb B0 B1 zz
  go_upto_region 2 with (first | (refine st rowFl rfl rfl O7 rfl rfl (by rfl) (by rfl) (by kernel_rfl) ?_))
  obtain ⟨W2, hW2⟩ : ∃ W, W = ((w1.alloc (.cells #[.int .i64 0, .int .i64 0] 29)).setRow w1.heap.size #[.int .i64 p, .int .i64 q]) := ⟨_, rfl⟩
  rw [← hW2] at B2 O1 O2 P7 B7 ⊢
  clear hW2 O7
  obtain ⟨⟨c0, c1, c2, c3, c4, c5⟩, d0, d1, d2, d3, d4, d5⟩ := row6 O1.out
  obtain ⟨⟨f0, f1⟩, g0, g1⟩ := row2 O2.out
  obtain ⟨⟨h0, h1⟩, _, _⟩ := row2 P7.out
  have hz1 := z1.out
  have hne1 : ¬ w1.heap.size = w.heap.size := by omega
  have hne2 : ¬ w.heap.size = w1.heap.size := by omega
  go_wp2_with fail
  go_region
  go_wp2_with fail
  have hz := z1.out
  have p1 := (((O1.out.set6 (.int .u8 0) (.int .u8 0) (.int .i64 0) (.string ⟨#[]⟩) (.slice none 0 0) (.int .i64 0)).away (x := w.heap.size + 1) (by omega) 0 (.int .i64 p)).away (x := w.heap.size + 1) (by omega) 1 (.int .i64 q)).drewN 1
  have p2 := ((O2.out.away (x := w.heap.size) (by omega) 0 (.int .u8 0)).away (x := w.heap.size) (by omega) 1 (.int .u8 0) |>.away (x := w.heap.size) (by omega) 2 (.int .i64 0) |>.away (x := w.heap.size) (by omega) 3 (.string ⟨#[]⟩) |>.away (x := w.heap.size) (by omega) 4 (.slice none 0 0) |>.away (x := w.heap.size) (by omega) 5 (.int .i64 0) |>.set2 (.int .i64 p) (.int .i64 q)).drewN 1
  refine bodyPost_ret (res2 rfl rfl rfl rfl (lv_row rowEx p1 rfl) (lv_row rowFl p2 rfl)) rfl ⟨below_drewN (below_set8 B2.out (Nat.le_refl _) (by omega) _ _ _ _ _ _ _ _) 1, _, rfl, rfl⟩

set_option maxRecDepth 100000 in
set_option maxHeartbeats 4000000 in
theorem rx_fault {s : ByteArray} {w : World} {ts : List Tk} {L : Int} {Y : Ex × Sr} (HB : ∀ W, Calls Tryd.prog 11 #[.string s] W fun e w' => Below W.heap.size W w' ∧ ∃ c : Par, e = .returned (.tuple #[c.ptr, .int .i64 0, .agg #[.int .i64 0, .int .i64 0]]) ∧ W.heap.size ≤ c.X ∧ (c.L : Int) = L ∧ Rs c w' (fine ts))
    (HE : ∀ c W, (c.L : Int) = L → Rs c W (fine ts) → Calls Tryd.prog 12 #[c.ptr, .int .i64 1, .int .i64 0] W (RsPost c W Y (exR W.heap.size))) (hY : Y.2.ok = false) :
    Calls Tryd.prog 5 #[.string s] w (WhPost w zEx exR (none, 30, Y.2.pos, Y.2.rule)) := by
  have HB := Lib.hid HB
  have HE := Lib.hid HE
  have O1 := (Own.new w 26 #[.int .u8 0, .int .u8 0, .int .i64 0, .string ⟨#[]⟩, .slice none 0 0, .int .i64 0]).alloc (.cells #[.int .i64 0, .int .i64 0] 29)
  have O2 := Own.new (w.alloc (.cells #[.int .u8 0, .int .u8 0, .int .i64 0, .string ⟨#[]⟩, .slice none 0 0, .int .i64 0] 26)) 29 #[.int .i64 0, .int .i64 0]
  have B0 : Below w.heap.size w ((w.alloc (.cells #[.int .u8 0, .int .u8 0, .int .i64 0, .string ⟨#[]⟩, .slice none 0 0, .int .i64 0] 26)).alloc (.cells #[.int .i64 0, .int .i64 0] 29)) := ((Below.refl _ w).alloc (Nat.le_refl _) _).alloc (by simp only [World.size_alloc]; omega) _
  have z0 : Hid (((w.alloc (.cells #[.int .u8 0, .int .u8 0, .int .i64 0, .string ⟨#[]⟩, .slice none 0 0, .int .i64 0] 26)).alloc (.cells #[.int .i64 0, .int .i64 0] 29)).heap.size = w.heap.size + 2) := by simp only [Hid, World.size_alloc]
  rw [World.size_alloc] at O2
  go_enter Tryd.func5, Tryd.ntmps5
  go_wp2_with fail
  obtain ⟨W0, hW0⟩ : ∃ W, W = ((w.alloc (.cells #[.int .u8 0, .int .u8 0, .int .i64 0, .string ⟨#[]⟩, .slice none 0 0, .int .i64 0] 26)).alloc (.cells #[.int .i64 0, .int .i64 0] 29)) := ⟨_, rfl⟩
  rw [← hW0] at O1 O2 B0 z0 ⊢
  clear hW0
  go_at_call 11
  refine (HB.out _).mono ?_
  rintro e w1 ⟨hb, c, rfl, hX, hL, hR⟩
  have O1 := O1.below hb
  have O2 := O2.below hb
  have B1 := B0.trans (hb.mono (by have := z0.out; omega))
  have z1 : Hid (w.heap.size + 2 ≤ w1.heap.size) := by have := hb.size; have := z0.out; simp only [Hid]; omega
  have O7 := Own.new w1 29 #[.int .i64 0, .int .i64 0]
  have P7 := Lib.hid (O7.row #[.int .i64 0, .int .i64 0])
  have zz := z1.out
  have B2 := Lib.hid (Below.of_row (B1.alloc B1.size (.cells #[.int .i64 0, .int .i64 0] 29)) (g := w1.heap.size) B1.size #[.int .i64 0, .int .i64 0])
  have O1 := Lib.hid ((O1.alloc (.cells #[.int .i64 0, .int .i64 0] 29)).other (g := w1.heap.size) #[.int .i64 0, .int .i64 0] (by omega))
  have O2 := Lib.hid ((O2.alloc (.cells #[.int .i64 0, .int .i64 0] 29)).other (g := w1.heap.size) #[.int .i64 0, .int .i64 0] (by omega))
  have B7 := Lib.hid (Below.of_row ((Below.refl _ w1).alloc (Nat.le_refl _) (.cells #[.int .i64 0, .int .i64 0] 29)) (g := w1.heap.size) (Nat.le_refl _) #[.int .i64 0, .int .i64 0])
  clear hb B0 B1 zz
  go_upto_region 2 with (first | (refine st rowFl rfl rfl O7 rfl rfl (by rfl) (by rfl) (by kernel_rfl) ?_))
  obtain ⟨W2, hW2⟩ : ∃ W, W = ((w1.alloc (.cells #[.int .i64 0, .int .i64 0] 29)).setRow w1.heap.size #[.int .i64 0, .int .i64 0]) := ⟨_, rfl⟩
  rw [← hW2] at B2 O1 O2 P7 B7 ⊢
  clear hW2 O7
  have HX : Hid (w.heap.size + 2 ≤ c.X ∧ c.X < w1.heap.size) := by have := z0.out; have := hR.lt; simp only [Hid]; omega
  have R2 : Hid (Rs c W2 (fine ts)) := by
    obtain ⟨k, R, h⟩ := hR
    exact ⟨k, R.below B7.out, h⟩
  have HL := Lib.hid hL
  clear hX hL hR
  unfold Par.ptr at *
  go_wp2_with fail
  go_at_call 12
  refine (HE.out c _ HL.out R2.out).mono ?_
  obtain ⟨e0, σ⟩ := Y
  rintro e w3 ⟨hf, v, rfl, ⟨a4, cap4, rfl, hV⟩, hr⟩
  have hx := HX.out
  have hz := z1.out
  have h7 := B7.out.size
  have hs3 := Keep.size hf
  have O1 := Lib.hid ((O1.out.fr hf (by omega)).alloc (.cells #[.int .u8 e0.kind, .int .u8 e0.op, .int .i64 e0.wd, .string e0.name, .slice a4 e0.kids.length cap4, .int .i64 e0.pos] 26))
  have O2 := Lib.hid ((O2.out.fr hf (by omega)).alloc (.cells #[.int .u8 e0.kind, .int .u8 e0.op, .int .i64 e0.wd, .string e0.name, .slice a4 e0.kids.length cap4, .int .i64 e0.pos] 26))
  have B2 := Lib.hid ((B2.out.trans (fr_below hf (by omega) (by omega))).alloc (by omega) (.cells #[.int .u8 e0.kind, .int .u8 e0.op, .int .i64 e0.wd, .string e0.name, .slice a4 e0.kids.length cap4, .int .i64 e0.pos] 26))
  have N3 := Lib.hid (Own.new w3 26 #[.int .u8 e0.kind, .int .u8 e0.op, .int .i64 e0.wd, .string e0.name, .slice a4 e0.kids.length cap4, .int .i64 e0.pos])
  have HV := Lib.hid (exsAt_stays (stays_alloc _ w3 (.cells #[.int .u8 e0.kind, .int .u8 e0.op, .int .i64 e0.wd, .string e0.name, .slice a4 e0.kids.length cap4, .int .i64 e0.pos] 26)) (fun b hb => hb) (exsAt_in hV))
  have HR : Hid (Rs c (w3.alloc (.cells #[.int .u8 e0.kind, .int .u8 e0.op, .int .i64 e0.wd, .string e0.name, .slice a4 e0.kids.length cap4, .int .i64 e0.pos] 26)) σ) := by
    obtain ⟨k, R, h⟩ := hr
    exact ⟨k, R.below ((Below.refl _ w3).alloc (Nat.le_refl _) _), h⟩
  have HZ : Hid (W2.heap.size ≤ w3.heap.size ∧ w1.heap.size ≤ W2.heap.size) := ⟨hs3, by omega⟩
  clear hf hV hr hx hz h7 hs3
  go_upto_region 5 with (fail)
  obtain ⟨W3, hW3⟩ : ∃ W, W = w3.alloc (.cells #[.int .u8 e0.kind, .int .u8 e0.op, .int .i64 e0.wd, .string e0.name, .slice a4 e0.kids.length cap4, .int .i64 e0.pos] 26) := ⟨_, rfl⟩
  rw [← hW3] at O1 O2 B2 N3 HV HR ⊢
  clear hW3
  have HOQ : Hid (∀ W n, Rs c W σ → Calls Tryd.prog 13 #[.pointer (some ⟨c.X, 0, none⟩)] (W.drewN n) fun e w' => e = .returned (.bool false) ∧ w' = W.drewN n) := fun W n R => by have := r_ok_same (R.drewN n); rw [show σ.ok = false from hY] at this; exact this
  have HO : Hid (∀ W, Rs c W σ → Calls Tryd.prog 13 #[.pointer (some ⟨c.X, 0, none⟩)] W fun e w' => e = .returned (.bool false) ∧ w' = W) := fun W R => by have := r_ok_same R; rw [show σ.ok = false from hY] at this; exact this
  clear hY
  go_wp2_with fail
  go_quiet (first | (go_at_call 13; refine Calls.quiet_of_same (HOQ.out _ _ HR.out)))
  obtain ⟨W4, hW4⟩ : ∃ W, W = W3.drewN nq := ⟨_, rfl⟩
  have O1 := Lib.hid (O1.out.drewN nq)
  have O2 := Lib.hid (O2.out.drewN nq)
  have B2 := Lib.hid (below_drewN B2.out nq)
  have N3 := Lib.hid (N3.out.drewN nq)
  have HR := Lib.hid (HR.out.drewN nq)
  have HV := Lib.hid (exsAt_stays (w := W3) (w' := W3.drewN nq) (fun b o v hb hv => hv) (fun b hb => hb) HV.out)
  rw [← hW4] at O1 O2 B2 N3 HR HV ⊢
  clear hW4
  go_wp2_with fail
  go_at_call 13
  refine (HO.out _ HR.out).mono ?_
  rintro e w5 ⟨rfl, rfl⟩
  obtain ⟨k, R, hk⟩ := HR.out
  have AC := (Ak.start R).cells
  obtain ⟨p, q⟩ : Int × Int := (0, 0)
  obtain ⟨⟨_, _, _, x3, x4⟩, _⟩ := AC
  have hX := R.lt
  obtain ⟨⟨c0, c1, c2, c3, c4, c5⟩, d0, d1, d2, d3, d4, d5⟩ := row6 O1.out
  obtain ⟨⟨f0, f1⟩, g0, g1⟩ := row2 O2.out
  have hxx := HX.out
  have hne1 : ¬ c.X = w.heap.size := by omega
  have hne2 : ¬ w.heap.size = c.X := by omega
  have hne3 : ¬ c.X = w.heap.size + 1 := by omega
  have hlx : w.heap.size < c.X := by omega
  clear R hk
  go_wp2_with fail
  go_region
  go_wp2_with fail
  have hz := z1.out
  have p1 := (((O1.out.set6 (.int .u8 0) (.int .u8 0) (.int .i64 0) (.string ⟨#[]⟩) (.slice none 0 0) (.int .i64 0)).away (x := w.heap.size + 1) (by omega) 0 (.int .i64 σ.pos)).away (x := w.heap.size + 1) (by omega) 1 (.int .i64 σ.rule)).drewN 1
  have p2 := ((O2.out.away (x := w.heap.size) (by omega) 0 (.int .u8 0)).away (x := w.heap.size) (by omega) 1 (.int .u8 0) |>.away (x := w.heap.size) (by omega) 2 (.int .i64 0) |>.away (x := w.heap.size) (by omega) 3 (.string ⟨#[]⟩) |>.away (x := w.heap.size) (by omega) 4 (.slice none 0 0) |>.away (x := w.heap.size) (by omega) 5 (.int .i64 0) |>.set2 (.int .i64 σ.pos) (.int .i64 σ.rule)).drewN 1
  refine bodyPost_ret (res2 rfl rfl rfl rfl (lv_row rowEx p1 rfl) (lv_row rowFl p2 rfl)) rfl ⟨below_drewN (below_set8 B2.out (Nat.le_refl _) (by omega) _ _ _ _ _ _ _ _) 1, _, rfl, rfl⟩

set_option maxRecDepth 100000 in
set_option maxHeartbeats 4000000 in
theorem rx_more {s : ByteArray} {w : World} {ts : List Tk} {L : Int} {Y : Ex × Sr} (HB : ∀ W, Calls Tryd.prog 11 #[.string s] W fun e w' => Below W.heap.size W w' ∧ ∃ c : Par, e = .returned (.tuple #[c.ptr, .int .i64 0, .agg #[.int .i64 0, .int .i64 0]]) ∧ W.heap.size ≤ c.X ∧ (c.L : Int) = L ∧ Rs c w' (fine ts))
    (HE : ∀ c W, (c.L : Int) = L → Rs c W (fine ts) → Calls Tryd.prog 12 #[c.ptr, .int .i64 1, .int .i64 0] W (RsPost c W Y (exR W.heap.size))) (hY : Y.2.ok = true) (hN : Y.2.ts ≠ []) :
    Calls Tryd.prog 5 #[.string s] w (WhPost w zEx exR (none, 30, (Y.2.fail L 2).pos, (Y.2.fail L 2).rule)) := by
  have HB := Lib.hid HB
  have HE := Lib.hid HE
  have O1 := (Own.new w 26 #[.int .u8 0, .int .u8 0, .int .i64 0, .string ⟨#[]⟩, .slice none 0 0, .int .i64 0]).alloc (.cells #[.int .i64 0, .int .i64 0] 29)
  have O2 := Own.new (w.alloc (.cells #[.int .u8 0, .int .u8 0, .int .i64 0, .string ⟨#[]⟩, .slice none 0 0, .int .i64 0] 26)) 29 #[.int .i64 0, .int .i64 0]
  have B0 : Below w.heap.size w ((w.alloc (.cells #[.int .u8 0, .int .u8 0, .int .i64 0, .string ⟨#[]⟩, .slice none 0 0, .int .i64 0] 26)).alloc (.cells #[.int .i64 0, .int .i64 0] 29)) := ((Below.refl _ w).alloc (Nat.le_refl _) _).alloc (by simp only [World.size_alloc]; omega) _
  have z0 : Hid (((w.alloc (.cells #[.int .u8 0, .int .u8 0, .int .i64 0, .string ⟨#[]⟩, .slice none 0 0, .int .i64 0] 26)).alloc (.cells #[.int .i64 0, .int .i64 0] 29)).heap.size = w.heap.size + 2) := by simp only [Hid, World.size_alloc]
  rw [World.size_alloc] at O2
  go_enter Tryd.func5, Tryd.ntmps5
  go_wp2_with fail
  obtain ⟨W0, hW0⟩ : ∃ W, W = ((w.alloc (.cells #[.int .u8 0, .int .u8 0, .int .i64 0, .string ⟨#[]⟩, .slice none 0 0, .int .i64 0] 26)).alloc (.cells #[.int .i64 0, .int .i64 0] 29)) := ⟨_, rfl⟩
  rw [← hW0] at O1 O2 B0 z0 ⊢
  clear hW0
  go_at_call 11
  refine (HB.out _).mono ?_
  rintro e w1 ⟨hb, c, rfl, hX, hL, hR⟩
  have O1 := O1.below hb
  have O2 := O2.below hb
  have B1 := B0.trans (hb.mono (by have := z0.out; omega))
  have z1 : Hid (w.heap.size + 2 ≤ w1.heap.size) := by have := hb.size; have := z0.out; simp only [Hid]; omega
  have O7 := Own.new w1 29 #[.int .i64 0, .int .i64 0]
  have P7 := Lib.hid (O7.row #[.int .i64 0, .int .i64 0])
  have zz := z1.out
  have B2 := Lib.hid (Below.of_row (B1.alloc B1.size (.cells #[.int .i64 0, .int .i64 0] 29)) (g := w1.heap.size) B1.size #[.int .i64 0, .int .i64 0])
  have O1 := Lib.hid ((O1.alloc (.cells #[.int .i64 0, .int .i64 0] 29)).other (g := w1.heap.size) #[.int .i64 0, .int .i64 0] (by omega))
  have O2 := Lib.hid ((O2.alloc (.cells #[.int .i64 0, .int .i64 0] 29)).other (g := w1.heap.size) #[.int .i64 0, .int .i64 0] (by omega))
  have B7 := Lib.hid (Below.of_row ((Below.refl _ w1).alloc (Nat.le_refl _) (.cells #[.int .i64 0, .int .i64 0] 29)) (g := w1.heap.size) (Nat.le_refl _) #[.int .i64 0, .int .i64 0])
  clear hb B0 B1 zz
  go_upto_region 2 with (first | (refine st rowFl rfl rfl O7 rfl rfl (by rfl) (by rfl) (by kernel_rfl) ?_))
  obtain ⟨W2, hW2⟩ : ∃ W, W = ((w1.alloc (.cells #[.int .i64 0, .int .i64 0] 29)).setRow w1.heap.size #[.int .i64 0, .int .i64 0]) := ⟨_, rfl⟩
  rw [← hW2] at B2 O1 O2 P7 B7 ⊢
  clear hW2 O7
  have HX : Hid (w.heap.size + 2 ≤ c.X ∧ c.X < w1.heap.size) := by have := z0.out; have := hR.lt; simp only [Hid]; omega
  have R2 : Hid (Rs c W2 (fine ts)) := by
    obtain ⟨k, R, h⟩ := hR
    exact ⟨k, R.below B7.out, h⟩
  have HL := Lib.hid hL
  clear hX hL hR
  unfold Par.ptr at *
  go_wp2_with fail
  go_at_call 12
  refine (HE.out c _ HL.out R2.out).mono ?_
  obtain ⟨e0, σ⟩ := Y
  rintro e w3 ⟨hf, v, rfl, ⟨a4, cap4, rfl, hV⟩, hr⟩
  have hx := HX.out
  have hz := z1.out
  have h7 := B7.out.size
  have hs3 := Keep.size hf
  have O1 := Lib.hid ((O1.out.fr hf (by omega)).alloc (.cells #[.int .u8 e0.kind, .int .u8 e0.op, .int .i64 e0.wd, .string e0.name, .slice a4 e0.kids.length cap4, .int .i64 e0.pos] 26))
  have O2 := Lib.hid ((O2.out.fr hf (by omega)).alloc (.cells #[.int .u8 e0.kind, .int .u8 e0.op, .int .i64 e0.wd, .string e0.name, .slice a4 e0.kids.length cap4, .int .i64 e0.pos] 26))
  have B2 := Lib.hid ((B2.out.trans (fr_below hf (by omega) (by omega))).alloc (by omega) (.cells #[.int .u8 e0.kind, .int .u8 e0.op, .int .i64 e0.wd, .string e0.name, .slice a4 e0.kids.length cap4, .int .i64 e0.pos] 26))
  have N3 := Lib.hid (Own.new w3 26 #[.int .u8 e0.kind, .int .u8 e0.op, .int .i64 e0.wd, .string e0.name, .slice a4 e0.kids.length cap4, .int .i64 e0.pos])
  have HV := Lib.hid (exsAt_stays (stays_alloc _ w3 (.cells #[.int .u8 e0.kind, .int .u8 e0.op, .int .i64 e0.wd, .string e0.name, .slice a4 e0.kids.length cap4, .int .i64 e0.pos] 26)) (fun b hb => hb) (exsAt_in hV))
  have HR : Hid (Rs c (w3.alloc (.cells #[.int .u8 e0.kind, .int .u8 e0.op, .int .i64 e0.wd, .string e0.name, .slice a4 e0.kids.length cap4, .int .i64 e0.pos] 26)) σ) := by
    obtain ⟨k, R, h⟩ := hr
    exact ⟨k, R.below ((Below.refl _ w3).alloc (Nat.le_refl _) _), h⟩
  have HZ : Hid (W2.heap.size ≤ w3.heap.size ∧ w1.heap.size ≤ W2.heap.size) := ⟨hs3, by omega⟩
  clear hf hV hr hx hz h7 hs3
  go_upto_region 5 with (fail)
  obtain ⟨W3, hW3⟩ : ∃ W, W = w3.alloc (.cells #[.int .u8 e0.kind, .int .u8 e0.op, .int .i64 e0.wd, .string e0.name, .slice a4 e0.kids.length cap4, .int .i64 e0.pos] 26) := ⟨_, rfl⟩
  rw [← hW3] at O1 O2 B2 N3 HV HR ⊢
  clear hW3
  have HOQ : Hid (∀ W n, Rs c W σ → Calls Tryd.prog 13 #[.pointer (some ⟨c.X, 0, none⟩)] (W.drewN n) fun e w' => e = .returned (.bool true) ∧ w' = W.drewN n) := fun W n R => by have := r_ok_same (R.drewN n); rw [show σ.ok = true from hY] at this; exact this
  obtain ⟨σ', hσ'⟩ : ∃ σ', σ' = σ.fail c.L 2 := ⟨_, rfl⟩
  have HF : Hid (∀ W, Rs c W σ → Calls Tryd.prog 14 #[.pointer (some ⟨c.X, 0, none⟩), .int .i64 2] W fun e w' => e = .returned (.tuple #[]) ∧ Fr c W w' ∧ Rs c w' σ') := fun W R => by rw [hσ']; exact r_fail R 2
  have HO : Hid (∀ W, Rs c W σ' → Calls Tryd.prog 13 #[.pointer (some ⟨c.X, 0, none⟩)] W fun e w' => e = .returned (.bool false) ∧ w' = W) := fun W R => by have := r_ok_same R; rw [hσ', fail_ok (by decide)] at this; exact this
  obtain ⟨k, R, hk⟩ := HR.out
  obtain ⟨⟨x0, x1, _⟩, _⟩ := (Ak.start R).cells
  have hX := R.lt
  have hle := R.le
  have hsm := R.s.small.1
  have hlen : (σ.ts.length : Int) = (c.toks.length : Int) - (k : Int) := by rw [hk, Par.at_len]; omega
  obtain ⟨m, hm⟩ : ∃ m, m = c.toks.length := ⟨_, rfl⟩
  rw [← hm] at x0 hle hsm hlen
  obtain ⟨ta, hta⟩ : ∃ ta, ta = c.ta := ⟨_, rfl⟩
  rw [← hta] at x0
  clear R hm hta
  have hkm : (k : Int) < (m : Int) := by
    have : 0 < σ.ts.length := by
      cases h : σ.ts with
      | nil => exact absurd h hN
      | cons t r => simp
    omega
  have HRES : Hid ((none, 30, (σ.fail L 2).pos, (σ.fail L 2).rule) = ((none, 30, σ'.pos, σ'.rule) : Option Ex × Int × Int × Int)) := by rw [Hid, hσ', HL.out]
  clear hY hN hσ' hlen hk
  go_wp2_with fail
  go_quiet (first | (go_at_call 13; refine Calls.quiet_of_same (HOQ.out _ _ HR.out)))
  obtain ⟨W4, hW4⟩ : ∃ W, W = W3.drewN nq := ⟨_, rfl⟩
  have O1 := Lib.hid (O1.out.drewN nq)
  have O2 := Lib.hid (O2.out.drewN nq)
  have B2 := Lib.hid (below_drewN B2.out nq)
  have N3 := Lib.hid (N3.out.drewN nq)
  have HR := Lib.hid (HR.out.drewN nq)
  have HV := Lib.hid (exsAt_stays (w := W3) (w' := W3.drewN nq) (fun b o v hb hv => hv) (fun b hb => hb) HV.out)
  rw [← hW4] at O1 O2 B2 N3 HR HV ⊢
  clear hW4
  clear x0 x1 hX hle hsm hkm
  go_wp2_with fail
  go_at_call 14
  refine (HF.out _ HR.out).mono ?_
  rintro e w5 ⟨rfl, hf, hr⟩
  have hx := HX.out
  have hz := HZ.out
  have hl1 := O1.out.lt
  have O1 := Lib.hid (O1.out.fr hf (by omega))
  have O2 := Lib.hid (O2.out.fr hf (by omega))
  have B2 := Lib.hid (B2.out.trans (fr_below hf (by omega) B2.out.size))
  have HR := Lib.hid hr
  clear hf hr hx hz hl1 HV N3
  go_wp2_with fail
  go_at_call 13
  refine (HO.out _ HR.out).mono ?_
  rintro e w6 ⟨rfl, rfl⟩
  obtain ⟨k, R, hk⟩ := HR.out
  have AC := (Ak.start R).cells
  obtain ⟨p, q⟩ : Int × Int := (0, 0)
  obtain ⟨⟨_, _, _, x3, x4⟩, _⟩ := AC
  have hX := R.lt
  obtain ⟨⟨c0, c1, c2, c3, c4, c5⟩, d0, d1, d2, d3, d4, d5⟩ := row6 O1.out
  obtain ⟨⟨f0, f1⟩, g0, g1⟩ := row2 O2.out
  have hxx := HX.out
  have hne1 : ¬ c.X = w.heap.size := by omega
  have hne2 : ¬ w.heap.size = c.X := by omega
  have hne3 : ¬ c.X = w.heap.size + 1 := by omega
  have hlx : w.heap.size < c.X := by omega
  clear R hk
  go_wp2_with fail
  go_region
  go_wp2_with fail
  have hz := z1.out
  have p1 := (((O1.out.set6 (.int .u8 0) (.int .u8 0) (.int .i64 0) (.string ⟨#[]⟩) (.slice none 0 0) (.int .i64 0)).away (x := w.heap.size + 1) (by omega) 0 (.int .i64 σ'.pos)).away (x := w.heap.size + 1) (by omega) 1 (.int .i64 σ'.rule)).drewN 1
  have p2 := ((O2.out.away (x := w.heap.size) (by omega) 0 (.int .u8 0)).away (x := w.heap.size) (by omega) 1 (.int .u8 0) |>.away (x := w.heap.size) (by omega) 2 (.int .i64 0) |>.away (x := w.heap.size) (by omega) 3 (.string ⟨#[]⟩) |>.away (x := w.heap.size) (by omega) 4 (.slice none 0 0) |>.away (x := w.heap.size) (by omega) 5 (.int .i64 0) |>.set2 (.int .i64 σ'.pos) (.int .i64 σ'.rule)).drewN 1
  refine bodyPost_ret (res2 rfl rfl rfl rfl (lv_row rowEx p1 rfl) (lv_row rowFl p2 rfl)) rfl ⟨below_drewN (below_set8 B2.out (Nat.le_refl _) (by omega) _ _ _ _ _ _ _ _) 1, _, by rw [HRES.out]; rfl, rfl⟩

set_option maxRecDepth 100000 in
set_option maxHeartbeats 4000000 in
theorem rx_tree {s : ByteArray} {w : World} {ts : List Tk} {L : Int} {Y : Ex × Sr} (HB : ∀ W, Calls Tryd.prog 11 #[.string s] W fun e w' => Below W.heap.size W w' ∧ ∃ c : Par, e = .returned (.tuple #[c.ptr, .int .i64 0, .agg #[.int .i64 0, .int .i64 0]]) ∧ W.heap.size ≤ c.X ∧ (c.L : Int) = L ∧ Rs c w' (fine ts))
    (HE : ∀ c W, (c.L : Int) = L → Rs c W (fine ts) → Calls Tryd.prog 12 #[c.ptr, .int .i64 1, .int .i64 0] W (RsPost c W Y (exR W.heap.size))) (hY : Y.2.ok = true) (hN : Y.2.ts = []) :
    Calls Tryd.prog 5 #[.string s] w (WhPost w zEx exR (some Y.1, 0, 0, 0)) := by
  have HB := Lib.hid HB
  have HE := Lib.hid HE
  have O1 := (Own.new w 26 #[.int .u8 0, .int .u8 0, .int .i64 0, .string ⟨#[]⟩, .slice none 0 0, .int .i64 0]).alloc (.cells #[.int .i64 0, .int .i64 0] 29)
  have O2 := Own.new (w.alloc (.cells #[.int .u8 0, .int .u8 0, .int .i64 0, .string ⟨#[]⟩, .slice none 0 0, .int .i64 0] 26)) 29 #[.int .i64 0, .int .i64 0]
  have B0 : Below w.heap.size w ((w.alloc (.cells #[.int .u8 0, .int .u8 0, .int .i64 0, .string ⟨#[]⟩, .slice none 0 0, .int .i64 0] 26)).alloc (.cells #[.int .i64 0, .int .i64 0] 29)) := ((Below.refl _ w).alloc (Nat.le_refl _) _).alloc (by simp only [World.size_alloc]; omega) _
  have z0 : Hid (((w.alloc (.cells #[.int .u8 0, .int .u8 0, .int .i64 0, .string ⟨#[]⟩, .slice none 0 0, .int .i64 0] 26)).alloc (.cells #[.int .i64 0, .int .i64 0] 29)).heap.size = w.heap.size + 2) := by simp only [Hid, World.size_alloc]
  rw [World.size_alloc] at O2
  go_enter Tryd.func5, Tryd.ntmps5
  go_wp2_with fail
  obtain ⟨W0, hW0⟩ : ∃ W, W = ((w.alloc (.cells #[.int .u8 0, .int .u8 0, .int .i64 0, .string ⟨#[]⟩, .slice none 0 0, .int .i64 0] 26)).alloc (.cells #[.int .i64 0, .int .i64 0] 29)) := ⟨_, rfl⟩
  rw [← hW0] at O1 O2 B0 z0 ⊢
  clear hW0
  go_at_call 11
  refine (HB.out _).mono ?_
  rintro e w1 ⟨hb, c, rfl, hX, hL, hR⟩
  have O1 := O1.below hb
  have O2 := O2.below hb
  have B1 := B0.trans (hb.mono (by have := z0.out; omega))
  have z1 : Hid (w.heap.size + 2 ≤ w1.heap.size) := by have := hb.size; have := z0.out; simp only [Hid]; omega
  have O7 := Own.new w1 29 #[.int .i64 0, .int .i64 0]
  have P7 := Lib.hid (O7.row #[.int .i64 0, .int .i64 0])
  have zz := z1.out
  have B2 := Lib.hid (Below.of_row (B1.alloc B1.size (.cells #[.int .i64 0, .int .i64 0] 29)) (g := w1.heap.size) B1.size #[.int .i64 0, .int .i64 0])
  have O1 := Lib.hid ((O1.alloc (.cells #[.int .i64 0, .int .i64 0] 29)).other (g := w1.heap.size) #[.int .i64 0, .int .i64 0] (by omega))
  have O2 := Lib.hid ((O2.alloc (.cells #[.int .i64 0, .int .i64 0] 29)).other (g := w1.heap.size) #[.int .i64 0, .int .i64 0] (by omega))
  have B7 := Lib.hid (Below.of_row ((Below.refl _ w1).alloc (Nat.le_refl _) (.cells #[.int .i64 0, .int .i64 0] 29)) (g := w1.heap.size) (Nat.le_refl _) #[.int .i64 0, .int .i64 0])
  clear hb B0 B1 zz
  go_upto_region 2 with (first | (refine st rowFl rfl rfl O7 rfl rfl (by rfl) (by rfl) (by kernel_rfl) ?_))
  obtain ⟨W2, hW2⟩ : ∃ W, W = ((w1.alloc (.cells #[.int .i64 0, .int .i64 0] 29)).setRow w1.heap.size #[.int .i64 0, .int .i64 0]) := ⟨_, rfl⟩
  rw [← hW2] at B2 O1 O2 P7 B7 ⊢
  clear hW2 O7
  have HX : Hid (w.heap.size + 2 ≤ c.X ∧ c.X < w1.heap.size) := by have := z0.out; have := hR.lt; simp only [Hid]; omega
  have R2 : Hid (Rs c W2 (fine ts)) := by
    obtain ⟨k, R, h⟩ := hR
    exact ⟨k, R.below B7.out, h⟩
  have HL := Lib.hid hL
  clear hX hL hR
  unfold Par.ptr at *
  go_wp2_with fail
  go_at_call 12
  refine (HE.out c _ HL.out R2.out).mono ?_
  obtain ⟨e0, σ⟩ := Y
  rintro e w3 ⟨hf, v, rfl, ⟨a4, cap4, rfl, hV⟩, hr⟩
  have hx := HX.out
  have hz := z1.out
  have h7 := B7.out.size
  have hs3 := Keep.size hf
  have O1 := Lib.hid ((O1.out.fr hf (by omega)).alloc (.cells #[.int .u8 e0.kind, .int .u8 e0.op, .int .i64 e0.wd, .string e0.name, .slice a4 e0.kids.length cap4, .int .i64 e0.pos] 26))
  have O2 := Lib.hid ((O2.out.fr hf (by omega)).alloc (.cells #[.int .u8 e0.kind, .int .u8 e0.op, .int .i64 e0.wd, .string e0.name, .slice a4 e0.kids.length cap4, .int .i64 e0.pos] 26))
  have B2 := Lib.hid ((B2.out.trans (fr_below hf (by omega) (by omega))).alloc (by omega) (.cells #[.int .u8 e0.kind, .int .u8 e0.op, .int .i64 e0.wd, .string e0.name, .slice a4 e0.kids.length cap4, .int .i64 e0.pos] 26))
  have N3 := Lib.hid (Own.new w3 26 #[.int .u8 e0.kind, .int .u8 e0.op, .int .i64 e0.wd, .string e0.name, .slice a4 e0.kids.length cap4, .int .i64 e0.pos])
  have HV := Lib.hid (exsAt_stays (stays_alloc _ w3 (.cells #[.int .u8 e0.kind, .int .u8 e0.op, .int .i64 e0.wd, .string e0.name, .slice a4 e0.kids.length cap4, .int .i64 e0.pos] 26)) (fun b hb => hb) (exsAt_in hV))
  have HR : Hid (Rs c (w3.alloc (.cells #[.int .u8 e0.kind, .int .u8 e0.op, .int .i64 e0.wd, .string e0.name, .slice a4 e0.kids.length cap4, .int .i64 e0.pos] 26)) σ) := by
    obtain ⟨k, R, h⟩ := hr
    exact ⟨k, R.below ((Below.refl _ w3).alloc (Nat.le_refl _) _), h⟩
  have HZ : Hid (W2.heap.size ≤ w3.heap.size ∧ w1.heap.size ≤ W2.heap.size) := ⟨hs3, by omega⟩
  clear hf hV hr hx hz h7 hs3
  go_upto_region 5 with (fail)
  obtain ⟨W3, hW3⟩ : ∃ W, W = w3.alloc (.cells #[.int .u8 e0.kind, .int .u8 e0.op, .int .i64 e0.wd, .string e0.name, .slice a4 e0.kids.length cap4, .int .i64 e0.pos] 26) := ⟨_, rfl⟩
  rw [← hW3] at O1 O2 B2 N3 HV HR ⊢
  clear hW3
  have HOQ : Hid (∀ W n, Rs c W σ → Calls Tryd.prog 13 #[.pointer (some ⟨c.X, 0, none⟩)] (W.drewN n) fun e w' => e = .returned (.bool true) ∧ w' = W.drewN n) := fun W n R => by have := r_ok_same (R.drewN n); rw [show σ.ok = true from hY] at this; exact this
  have HO : Hid (∀ W, Rs c W σ → Calls Tryd.prog 13 #[.pointer (some ⟨c.X, 0, none⟩)] W fun e w' => e = .returned (.bool true) ∧ w' = W) := fun W R => by have := r_ok_same R; rw [show σ.ok = true from hY] at this; exact this
  obtain ⟨k, R, hk⟩ := HR.out
  obtain ⟨⟨x0, x1, _⟩, _⟩ := (Ak.start R).cells
  have hX := R.lt
  have hle := R.le
  have hsm := R.s.small.1
  have hlen : (σ.ts.length : Int) = (c.toks.length : Int) - (k : Int) := by rw [hk, Par.at_len]; omega
  obtain ⟨m, hm⟩ : ∃ m, m = c.toks.length := ⟨_, rfl⟩
  rw [← hm] at x0 hle hsm hlen
  obtain ⟨ta, hta⟩ : ∃ ta, ta = c.ta := ⟨_, rfl⟩
  rw [← hta] at x0
  clear R hm hta
  have h0 : σ.ts.length = 0 := by rw [show σ.ts = [] from hN]; rfl
  have hkm : decide ((k : Int) < (m : Int)) = false := b_f (by omega)
  have hkn : decide (k < m) = false := b_f (by omega)
  clear h0
  clear hY hN hlen hk
  go_wp2_with fail
  go_quiet (first | (go_at_call 13; refine Calls.quiet_of_same (HOQ.out _ _ HR.out)))
  obtain ⟨W4, hW4⟩ : ∃ W, W = W3.drewN nq := ⟨_, rfl⟩
  have O1 := Lib.hid (O1.out.drewN nq)
  have O2 := Lib.hid (O2.out.drewN nq)
  have B2 := Lib.hid (below_drewN B2.out nq)
  have N3 := Lib.hid (N3.out.drewN nq)
  have HR := Lib.hid (HR.out.drewN nq)
  have HV := Lib.hid (exsAt_stays (w := W3) (w' := W3.drewN nq) (fun b o v hb hv => hv) (fun b hb => hb) HV.out)
  rw [← hW4] at O1 O2 B2 N3 HR HV ⊢
  clear hW4
  clear x0 x1 hX hle hsm hkm hkn
  go_wp2_with fail
  go_at_call 13
  refine (HO.out _ HR.out).mono ?_
  rintro e w6 ⟨rfl, rfl⟩
  have o1 := O1.out
  have n3 := N3.out
  have hz := z1.out
  have hzz := HZ.out
  have o2 := O2.out.other (g := w.heap.size) #[.int .u8 e0.kind, .int .u8 e0.op, .int .i64 e0.wd, .string e0.name, .slice a4 e0.kids.length cap4, .int .i64 e0.pos] (by omega)
  have p1 := Lib.hid ((o1.row #[.int .u8 e0.kind, .int .u8 e0.op, .int .i64 e0.wd, .string e0.name, .slice a4 e0.kids.length cap4, .int .i64 e0.pos]).other (g := w.heap.size + 1) #[.int .i64 0, .int .i64 0] (by omega))
  have p2 := Lib.hid (o2.row #[.int .i64 0, .int .i64 0])
  have B3 := Lib.hid (Below.of_row (Below.of_row B2.out (g := w.heap.size) (Nat.le_refl _) #[.int .u8 e0.kind, .int .u8 e0.op, .int .i64 e0.wd, .string e0.name, .slice a4 e0.kids.length cap4, .int .i64 e0.pos]) (g := w.heap.size + 1) (by omega) #[.int .i64 0, .int .i64 0])
  have V2 : Hid (exR w.heap.size e0 (.agg #[.int .u8 e0.kind, .int .u8 e0.op, .int .i64 e0.wd, .string e0.name, .slice a4 e0.kids.length cap4, .int .i64 e0.pos]) ((w6.setRow w.heap.size #[.int .u8 e0.kind, .int .u8 e0.op, .int .i64 e0.wd, .string e0.name, .slice a4 e0.kids.length cap4, .int .i64 e0.pos]).setRow (w.heap.size + 1) #[.int .i64 0, .int .i64 0])) :=
    ⟨a4, cap4, rfl, exsAt_mono (exsAt_stays ((stays_row w6 (g := w.heap.size) #[.int .u8 e0.kind, .int .u8 e0.op, .int .i64 e0.wd, .string e0.name, .slice a4 e0.kids.length cap4, .int .i64 e0.pos] (fun b hb => by omega)).trans (stays_row _ (g := w.heap.size + 1) #[.int .i64 0, .int .i64 0] (fun b hb => by omega))) (fun b hb => hb) HV.out) (fun b hb => by omega)⟩
  clear hz hzz
  go_wp2_with (first | (refine ld rowEx rfl rfl rfl n3 rfl ?_) | (refine st rowEx rfl rfl o1 rfl rfl (by rfl) (by rfl) (by kernel_rfl) ?_) | (refine st rowFl rfl rfl o2 rfl rfl (by rfl) (by rfl) (by kernel_rfl) ?_))
  refine bodyPost_ret (res2 rfl rfl rfl rfl (lv_row rowEx p1.out rfl) (lv_row rowFl p2.out rfl)) rfl ⟨B3.out, _, rfl, V2.out⟩

end Go.Proofs.YtgaibdipecngkaaDoor

namespace Go.Proofs.YtgaibdipecngkaaDoor
open Go.RowKit
set_option linter.unusedVariables false
theorem bg_case {s : ByteArray} {P : Prop} (h1 : 65536 < s.size → P) (h2 : ¬ 65536 < s.size → ¬ (frontR s).2.2 = 0 → P) (h3 : ¬ 65536 < s.size → (frontR s).2.2 = 0 → P) : P := by
  by_cases a : 65536 < s.size
  · exact h1 a
  · by_cases b : (frontR s).2.2 = 0
    · exact h3 a b
    · exact h2 a b
theorem p_rExpr (s : ByteArray) (w : World) : Calls Tryd.prog 5 #[.string s] w (WhPost w zEx exR (said_E s)) := by
  refine bg_case (s := s) (fun hl => ?_) (fun hl hf => ?_) (fun hl hf => ?_)
  · have e : said_E s = (none, 4, 0, 0) := by unfold said_E wholeR; rw [if_pos hl]
    rw [e]
    exact rx_bad (by decide) fun W => (r_begun s W).mono fun e w' ⟨hb, h⟩ => ⟨by rw [if_pos hl] at h; exact h, hb⟩
  · have e : said_E s = (none, 30, (frontR s).2.1, 1) := by unfold said_E wholeR; rw [if_neg hl, if_pos hf]
    rw [e]
    exact rx_bad (by decide) fun W => (r_begun s W).mono fun e w' ⟨hb, h⟩ => ⟨by rw [if_neg hl, if_pos hf] at h; exact h, hb⟩
  · obtain ⟨ts, hts⟩ : ∃ ts, ts = (scanX s).1.map Res.tk := ⟨_, rfl⟩
    have K : AllKd ts := by rw [hts]; exact scanX_kd s
    have e : said_E s = endR (endP (binE fnd (s.size : Int) (fuel ts) 1 0 ts)) := by unfold said_E wholeR; rw [if_neg hl, if_neg (by simpa using hf), hts]
    have has := (expr_as (L := (s.size : Int)) (fuel ts)).2.1 1 0 ts K (by decide) (by decide) (by unfold fuel; omega)
    have HB : ∀ W, Calls Tryd.prog 11 #[.string s] W fun e w' => Below W.heap.size W w' ∧ ∃ c : Par, e = .returned (.tuple #[c.ptr, .int .i64 0, .agg #[.int .i64 0, .int .i64 0]]) ∧ W.heap.size ≤ c.X ∧ (c.L : Int) = (s.size : Int) ∧ Rs c w' (fine ts) := fun W => by
      refine (r_begun s W).mono fun e w' ⟨hb, h⟩ => ⟨hb, ?_⟩
      rw [if_neg hl, if_neg (by simpa using hf)] at h
      obtain ⟨c, he, hX, ht, hL, hR⟩ := h
      refine ⟨c, he, hX, by rw [hL], 0, hR, ?_⟩
      show ts = (c.toks.drop 0).map Res.tk
      rw [hts, ht, List.drop_zero]
    have HE : ∀ (c : Par) W, (c.L : Int) = (s.size : Int) → Rs c W (fine ts) → Calls Tryd.prog 12 #[c.ptr, .int .i64 1, .int .i64 0] W (RsPost c W (exM (s.size : Int) (fuel ts) 1 0 (fine ts)) (exR W.heap.size)) := fun c W hL R => by
      have := (exs_all (fuel ts)).2 c W (fine ts) 1 0 R (by decide) (by decide) (by decide) (by decide) (fun _ => by show 3 * ts.length + 2 ≤ fuel ts; unfold fuel; omega)
      rw [hL] at this
      exact this
    rw [e]
    cases hx : binE fnd (s.size : Int) (fuel ts) 1 0 ts with
    | bad p q =>
      rw [hx] at has
      have has : (exM (s.size : Int) (fuel ts) 1 0 (fine ts)).2.At p q := has
      have := rx_fault (w := w) HB HE has.bad
      rw [has.1, has.2.1] at this
      exact this
    | ok a r =>
      rw [hx] at has
      have has : exM (s.size : Int) (fuel ts) 1 0 (fine ts) = (a, fine r) := has
      cases r with
      | nil =>
        have := rx_tree (w := w) HB HE (by rw [has]; rfl) (by rw [has]; rfl)
        rw [has] at this
        exact this
      | cons t r =>
        have := rx_more (w := w) HB HE (by rw [has]; rfl) (by rw [has]; show t :: r ≠ []; simp)
        rw [has] at this
        have hf := fine_fail (s.size : Int) (t :: r) (q := 2) (by decide)
        rw [hf.1, hf.2.1] at this
        exact this
end Go.Proofs.YtgaibdipecngkaaDoor

namespace Go.Proofs.YtgaibdipecngkaaDoor
open Go.RowKit
set_option linter.unusedVariables false
mutual
/-- The same, but for places. -/
def sameE : Ex → Ex → Bool
  | .mk k o w n ks _, .mk k' o' w' n' ks' _ => k == k' && o == o' && w == w' && n.data.toList == n'.data.toList && sameEs ks ks'
def sameEs : List Ex → List Ex → Bool
  | [], [] => true
  | x :: r, y :: s => sameE x y && sameEs r s
  | _, _ => false
end
theorem sameEs_len : ∀ (l m : List Ex), sameEs l m = true → l.length = m.length
  | [], [], _ => rfl
  | [], _ :: _, h => by simp [sameEs] at h
  | _ :: _, [], h => by simp [sameEs] at h
  | x :: r, y :: s, h => by
    simp only [sameEs, Bool.and_eq_true] at h
    have := sameEs_len r s h.2
    simp [this]
/-- From so many on. -/
def sameFrom (l m : List Ex) (i : Nat) : Bool := sameEs (l.drop i) (m.drop i)
theorem sameFrom_step {l m : List Ex} {i : Nat} (hl : i < l.length) (hm : i < m.length) : sameFrom l m i = (sameE l[i] m[i] && sameFrom l m (i + 1)) := by
  unfold sameFrom
  rw [List.drop_eq_getElem_cons hl, List.drop_eq_getElem_cons hm]
  rfl
theorem sameFrom_end {l m : List Ex} {i : Nat} (hl : l.length ≤ i) (hm : m.length ≤ i) : sameFrom l m i = true := by
  unfold sameFrom
  rw [List.drop_of_length_le hl, List.drop_of_length_le hm]
  rfl
theorem sameEs_ne {l m : List Ex} (h : l.length ≠ m.length) : sameEs l m = false := by
  cases hs : sameEs l m with
  | false => rfl
  | true => exact absurd (sameEs_len l m hs) h
/-- An expression's value, wherever its parts lie. -/
def exA (w : World) (e : Ex) (v : Value) : Prop := ∃ a cap, v = .agg #[.int .u8 e.kind, .int .u8 e.op, .int .i64 e.wd, .string e.name, .slice a e.kids.length cap, .int .i64 e.pos] ∧ exsAt (fun _ => True) w e.kids a
theorem exA_of {n : Nat} {w : World} {e : Ex} {v : Value} (h : exR n e v w) : exA w e v := by
  obtain ⟨a, cap, h1, h2⟩ := h
  exact ⟨a, cap, h1, exsAt_mono h2 (fun _ _ => trivial)⟩
mutual
/-- Its lists are short. -/
def okE : Ex → Prop
  | .mk _ _ _ _ ks _ => ks.length ≤ 65536 ∧ okEs ks
def okEs : List Ex → Prop
  | [] => True
  | x :: r => okE x ∧ okEs r
end
theorem okEs_mem : ∀ {l : List Ex}, okEs l → ∀ x ∈ l, okE x
  | [], _, x, hx => by simp at hx
  | y :: r, h, x, hx => by
    rcases List.mem_cons.1 hx with rfl | hx
    · exact h.1
    · exact okEs_mem h.2 x hx
theorem exsAt_below {w w' : World} {l : List Ex} {a : Option Addr} (h : exsAt (fun _ => True) w l a) (hb : Below w.heap.size w w') : exsAt (fun _ => True) w' l a := by
  have h := exsAt_in h
  exact exsAt_stays (R := fun b => True ∧ b < w.heap.size) (fun b o v hb2 hv => by rw [← hv]; exact hb.cell (p := ⟨b, o, none⟩) hb2.2) (fun _ _ => trivial) h
end Go.Proofs.YtgaibdipecngkaaDoor

namespace Go.Proofs.YtgaibdipecngkaaDoor
open Go.RowKit
set_option linter.unusedVariables false
def RSameC (e : Ex) : Prop := okE e → ∀ (f : Ex) (v u : Value) (w : World), exA w e v → exA w f u → Calls Tryd.prog 7 #[v, u] w fun e' w' => e' = .returned (.bool (sameE e f)) ∧ Below w.heap.size w w'
set_option maxRecDepth 100000 in
set_option maxHeartbeats 4000000 in
theorem r_exprs {l : List Ex} (HI : ∀ x ∈ l, RSameC x) (HO : okEs l) {m : List Ex} {a b : Option Addr} {c1 c2 : Nat} {w : World} (hl : l.length ≤ 65536) (h1 : exsAt (fun _ => True) w l a) (h2 : exsAt (fun _ => True) w m b) :
    Calls Tryd.prog 16 #[.slice a l.length c1, .slice b m.length c2] w fun e w' => e = .returned (.bool (sameEs l m)) ∧ Below w.heap.size w w' := by
  by_cases hne : l.length = m.length
  · obtain ⟨R, hR⟩ : ∃ R, R = sameEs l m := ⟨_, rfl⟩
    rw [← hR]
    have HRR := Lib.hid hR
    have HI := Lib.hid HI
    have HO := Lib.hid HO
    have HL := Lib.hid hl
    have HLM := Lib.hid hne
    have E1 := Lib.hid h1
    have E2 := Lib.hid h2
    rw [← hne]
    obtain ⟨n, hn⟩ : ∃ n, n = l.length := ⟨_, rfl⟩
    rw [← hn]
    have HN := Lib.hid hn
    have hn6 : n ≤ 65536 := by omega
    have hnn : ((n : Int) != (n : Int)) = false := by simp
    clear hl hne h1 h2 hR hn
    go_enter Tryd.func16, Tryd.ntmps16
    go_wp2_with fail
    go_loopg [13] (n + 1) (fun m' u W => ∃ i : Nat, u = .int .i64 (i : Int) ∧ i ≤ n ∧ m' = n - i + 1 ∧ sameFrom l m i = R ∧ Below w.heap.size w W)
    case atStart => exact ⟨0, rfl, Nat.zero_le _, by omega, HRR.out.symm, Below.refl _ w⟩
    case round =>
      obtain ⟨i, rfl, hi, hm, hR, hb⟩ := hrel
      have HB := Lib.hid hb
      have HRI := Lib.hid hR
      have HM := Lib.hid hm
      clear hb hR hm
      by_cases hin : i < n
      · have HIN := Lib.hid hin
        have il : i < l.length := by have := HN.out; omega
        have im : i < m.length := by have := HLM.out; omega
        have g1 : l[i]? = some l[i] := List.getElem?_eq_getElem il
        have g2 : m[i]? = some m[i] := List.getElem?_eq_getElem im
        have hmem : l[i] ∈ l := List.getElem_mem il
        have hst := sameFrom_step il im
        generalize l[i] = x at g1 hst hmem
        generalize m[i] = y at g2 hst
        have HX := Lib.hid (HI.out x hmem (okEs_mem HO.out x hmem))
        rcases E1.out with e | ⟨g, q, rfl, _, e1⟩
        · cases l with
          | nil => simp at il
          | cons => cases e
        rcases E2.out with e | ⟨g', q', rfl, _, e2⟩
        · cases m with
          | nil => simp at im
          | cons => cases e
        have x1 := exsIn_get i x e1 g1
        have y1 := exsIn_get i y e2 g2
        have HST := Lib.hid (HRI.out.symm.trans hst)
        obtain ⟨k, o, wd, nm, ks, ps⟩ := x
        obtain ⟨k', o', wd', nm', ks', ps'⟩ := y
        obtain ⟨a0, a1, a2, a3, ⟨ka, kc, a4, hka⟩, a5⟩ := x1
        obtain ⟨b0, b1, b2, b3, ⟨kb, kd, b4, hkb⟩, b5⟩ := y1
        have HKA := Lib.hid hka
        have HKB := Lib.hid hkb
        have lg := lt_of_at a0
        have lg' := lt_of_at b0
        simp only at lg lg'
        have BX := HB.out
        have a0 := (BX.cell (p := ⟨g, q + i * 6, none⟩) lg).trans a0
        have a1 := (BX.cell (p := ⟨g, q + i * 6 + 1, none⟩) lg).trans a1
        have a2 := (BX.cell (p := ⟨g, q + i * 6 + 2, none⟩) lg).trans a2
        have a3 := (BX.cell (p := ⟨g, q + i * 6 + 3, none⟩) lg).trans a3
        have a4 := (BX.cell (p := ⟨g, q + i * 6 + 4, none⟩) lg).trans a4
        have a5 := (BX.cell (p := ⟨g, q + i * 6 + 5, none⟩) lg).trans a5
        have b0 := (BX.cell (p := ⟨g', q' + i * 6, none⟩) lg').trans b0
        have b1 := (BX.cell (p := ⟨g', q' + i * 6 + 1, none⟩) lg').trans b1
        have b2 := (BX.cell (p := ⟨g', q' + i * 6 + 2, none⟩) lg').trans b2
        have b3 := (BX.cell (p := ⟨g', q' + i * 6 + 3, none⟩) lg').trans b3
        have b4 := (BX.cell (p := ⟨g', q' + i * 6 + 4, none⟩) lg').trans b4
        have b5 := (BX.cell (p := ⟨g', q' + i * 6 + 5, none⟩) lg').trans b5
        have hin' : (i : Int) < (n : Int) := by omega
        have BW : Hid (Below w.heap.size w wr.drew) := below_drewN HB.out 1
        have HC : Hid (Calls Tryd.prog 7 #[.agg #[.int .u8 k, .int .u8 o, .int .i64 wd, .string nm, .slice ka ks.length kc, .int .i64 ps], .agg #[.int .u8 k', .int .u8 o', .int .i64 wd', .string nm', .slice kb ks'.length kd, .int .i64 ps']] wr.drew fun e' w' => e' = .returned (.bool (sameE (.mk k o wd nm ks ps) (.mk k' o' wd' nm' ks' ps'))) ∧ Below wr.drew.heap.size wr.drew w') :=
          HX.out _ _ _ _ ⟨ka, kc, rfl, exsAt_below HKA.out BW.out⟩ ⟨kb, kd, rfl, exsAt_below HKB.out BW.out⟩
        generalize sameE (.mk k o wd nm ks ps) (.mk k' o' wd' nm' ks' ps') = B at HST HC
        clear hst hmem g1 g2 e1 e2 hka hkb il im BX
        go_wp2_with fail
        go_still_tail 8, (by kernel_rfl)
        change wpList _ _ _ _ _ wr.drew
        clear a0 a1 a2 a3 a4 a5 b0 b1 b2 b3 b4 b5
        obtain ⟨W1, hW1⟩ : ∃ W, W = wr.drew := ⟨_, rfl⟩
        rw [← hW1] at HC BW ⊢
        clear hW1
        cases B with
        | false =>
          go_wp2_with (go_at_call 7; refine (HC.out).mono ?_; rintro e w3 ⟨rfl, hb3⟩; have HB3 := Lib.hid hb3; clear hb3)
          go_ret
          exact ⟨by rw [HST.out]; rfl, BW.out.trans (HB3.out.mono (BW.out.size))⟩
        | true =>
          go_wp2_with (go_at_call 7; refine (HC.out).mono ?_; rintro e w3 ⟨rfl, hb3⟩; have HB3 := Lib.hid hb3; clear hb3)
          go_roundg (n - (i + 1) + 1)
          case measure => have := HM.out; omega
          case rel => exact ⟨i + 1, rfl, by omega, by omega, by rw [HST.out]; simp, BW.out.trans (HB3.out.mono (BW.out.size))⟩
      · have : i = n := by omega
        subst this
        have hR : R = true := by rw [← HRI.out]; exact sameFrom_end (by have := HN.out; omega) (by have := HLM.out; have := HN.out; omega)
        have HRT := Lib.hid hR
        clear hR
        go_wp2_with fail
        go_ret
        exact ⟨by rw [HRT.out]; rfl, HB.out⟩
  · rw [sameEs_ne hne]
    obtain ⟨n, hn⟩ : ∃ n, n = l.length := ⟨_, rfl⟩
    obtain ⟨k, hk⟩ : ∃ k, k = m.length := ⟨_, rfl⟩
    rw [← hn] at hne hl ⊢
    rw [← hk] at hne ⊢
    have hq : ((n : Int) != (k : Int)) = true := by simp; omega
    clear h1 h2 HI HO hn hk
    go_enter Tryd.func16, Tryd.ntmps16
    go_wp2_with fail
    go_ret
    exact ⟨rfl, Below.refl _ w⟩
set_option maxRecDepth 100000 in
set_option maxHeartbeats 4000000 in
theorem rsame_no0 {k o wd ps k' o' wd' ps' : Int} {nm nm' : ByteArray} {n n' kc kd : Nat} {ka kb : Option Addr} (w : World) (q0 : (k != k') = true) :
    Calls Tryd.prog 7 #[.agg #[.int .u8 k, .int .u8 o, .int .i64 wd, .string nm, .slice ka n kc, .int .i64 ps], .agg #[.int .u8 k', .int .u8 o', .int .i64 wd', .string nm', .slice kb n' kd, .int .i64 ps']] w fun e' w' => e' = .returned (.bool false) ∧ Below w.heap.size w w' := by
  go_enter Tryd.func7, Tryd.ntmps7
  go_wp2_with fail
  go_ret
  exact ⟨rfl, (((Below.refl _ w).alloc (Nat.le_refl _) _).alloc (by rw [World.size_alloc]; omega) _)⟩
set_option maxRecDepth 100000 in
set_option maxHeartbeats 4000000 in
theorem rsame_no1 {k o wd ps k' o' wd' ps' : Int} {nm nm' : ByteArray} {n n' kc kd : Nat} {ka kb : Option Addr} (w : World) (q0 : (k != k') = false) (q1 : (o != o') = true) :
    Calls Tryd.prog 7 #[.agg #[.int .u8 k, .int .u8 o, .int .i64 wd, .string nm, .slice ka n kc, .int .i64 ps], .agg #[.int .u8 k', .int .u8 o', .int .i64 wd', .string nm', .slice kb n' kd, .int .i64 ps']] w fun e' w' => e' = .returned (.bool false) ∧ Below w.heap.size w w' := by
  go_enter Tryd.func7, Tryd.ntmps7
  go_wp2_with fail
  go_ret
  exact ⟨rfl, (((Below.refl _ w).alloc (Nat.le_refl _) _).alloc (by rw [World.size_alloc]; omega) _)⟩
set_option maxRecDepth 100000 in
set_option maxHeartbeats 4000000 in
theorem rsame_no2 {k o wd ps k' o' wd' ps' : Int} {nm nm' : ByteArray} {n n' kc kd : Nat} {ka kb : Option Addr} (w : World) (q0 : (k != k') = false) (q1 : (o != o') = false) (q2 : (wd != wd') = true) :
    Calls Tryd.prog 7 #[.agg #[.int .u8 k, .int .u8 o, .int .i64 wd, .string nm, .slice ka n kc, .int .i64 ps], .agg #[.int .u8 k', .int .u8 o', .int .i64 wd', .string nm', .slice kb n' kd, .int .i64 ps']] w fun e' w' => e' = .returned (.bool false) ∧ Below w.heap.size w w' := by
  go_enter Tryd.func7, Tryd.ntmps7
  go_wp2_with fail
  go_ret
  exact ⟨rfl, (((Below.refl _ w).alloc (Nat.le_refl _) _).alloc (by rw [World.size_alloc]; omega) _)⟩
set_option maxRecDepth 100000 in
set_option maxHeartbeats 4000000 in
theorem rsame_no3 {k o wd ps k' o' wd' ps' : Int} {nm nm' : ByteArray} {n n' kc kd : Nat} {ka kb : Option Addr} (w : World) (q0 : (k != k') = false) (q1 : (o != o') = false) (q2 : (wd != wd') = false) (q3 : (nm.toList != nm'.toList) = true) (q3' : (nm.toList == nm'.toList) = false) :
    Calls Tryd.prog 7 #[.agg #[.int .u8 k, .int .u8 o, .int .i64 wd, .string nm, .slice ka n kc, .int .i64 ps], .agg #[.int .u8 k', .int .u8 o', .int .i64 wd', .string nm', .slice kb n' kd, .int .i64 ps']] w fun e' w' => e' = .returned (.bool false) ∧ Below w.heap.size w w' := by
  go_enter Tryd.func7, Tryd.ntmps7
  go_wp2_with fail
  go_ret
  exact ⟨rfl, (((Below.refl _ w).alloc (Nat.le_refl _) _).alloc (by rw [World.size_alloc]; omega) _)⟩
set_option maxRecDepth 100000 in
set_option maxHeartbeats 4000000 in
theorem rsame_yes {k o wd ps k' o' wd' ps' : Int} {nm nm' : ByteArray} {n n' kc kd : Nat} {ka kb : Option Addr} (w : World) {B : Bool} (q0 : (k != k') = false) (q1 : (o != o') = false) (q2 : (wd != wd') = false) (q3 : (nm.toList != nm'.toList) = false) (q3' : (nm.toList == nm'.toList) = true) (HC : ∀ W, Below w.heap.size w W → Calls Tryd.prog 16 #[.slice ka n kc, .slice kb n' kd] W fun e w' => e = .returned (.bool B) ∧ Below W.heap.size W w') :
    Calls Tryd.prog 7 #[.agg #[.int .u8 k, .int .u8 o, .int .i64 wd, .string nm, .slice ka n kc, .int .i64 ps], .agg #[.int .u8 k', .int .u8 o', .int .i64 wd', .string nm', .slice kb n' kd, .int .i64 ps']] w fun e' w' => e' = .returned (.bool B) ∧ Below w.heap.size w w' := by
  have HC := Lib.hid HC
  have HB : Hid (Below w.heap.size w ((w.alloc (.cells #[.int .u8 k, .int .u8 o, .int .i64 wd, .string nm, .slice ka n kc, .int .i64 ps] 26)).alloc (.cells #[.int .u8 k', .int .u8 o', .int .i64 wd', .string nm', .slice kb n' kd, .int .i64 ps'] 26))) := (((Below.refl _ w).alloc (Nat.le_refl _) _).alloc (by rw [World.size_alloc]; omega) _)
  go_enter Tryd.func7, Tryd.ntmps7
  go_wp2_with (go_at_call 16; refine (HC.out _ HB.out).mono ?_; rintro e w3 ⟨rfl, hb3⟩; have HB3 := Lib.hid hb3; clear hb3)
  go_ret
  exact ⟨rfl, HB.out.trans (HB3.out.mono HB.out.size)⟩
theorem r_same : ∀ e : Ex, RSameC e := by
  intro e
  induction e using Ex.ind with
  | h k o wd nm ks ps ih =>
    intro hok f v u w hv hu
    obtain ⟨k', o', wd', nm', ks', ps'⟩ := f
    obtain ⟨ka, kc, rfl, hka⟩ := hv
    obtain ⟨kb, kd, rfl, hkb⟩ := hu
    show Calls _ _ #[.agg #[.int .u8 k, .int .u8 o, .int .i64 wd, .string nm, .slice ka ks.length kc, .int .i64 ps], .agg #[.int .u8 k', .int .u8 o', .int .i64 wd', .string nm', .slice kb ks'.length kd, .int .i64 ps']] _ _
    simp only [sameE]
    have ne : ∀ {a b : Int}, ¬ (a == b) = true → (a != b) = true := fun h => by unfold bne; simpa using h
    have eq : ∀ {a b : Int}, (a == b) = true → (a != b) = false := fun h => by unfold bne; rw [h]; rfl
    by_cases h1 : (k == k') = true
    · by_cases h2 : (o == o') = true
      · by_cases h3 : (wd == wd') = true
        · have hd : (nm.toList == nm'.toList) = (nm.data.toList == nm'.data.toList) := by rw [Lib.toList_data, Lib.toList_data]
          by_cases h4 : (nm.data.toList == nm'.data.toList) = true
          · rw [h1, h2, h3, h4]
            simp only [Bool.true_and]
            exact rsame_yes w (eq h1) (eq h2) (eq h3) (by unfold bne; rw [hd, h4]; rfl) (hd.trans h4) (fun W hb => r_exprs (fun x hx => ih x hx) hok.2 hok.1 (exsAt_below hka hb) (exsAt_below hkb hb))
          · have h4' : (nm.data.toList == nm'.data.toList) = false := by simpa using h4
            rw [h4']
            simp only [Bool.and_false, Bool.false_and]
            exact rsame_no3 w (eq h1) (eq h2) (eq h3) (by unfold bne; rw [hd, h4']; rfl) (hd.trans h4')
        · rw [show (wd == wd') = false by simpa using h3]
          simp only [Bool.and_false, Bool.false_and]
          exact rsame_no2 w (eq h1) (eq h2) (ne h3)
      · rw [show (o == o') = false by simpa using h2]
        simp only [Bool.and_false, Bool.false_and]
        exact rsame_no1 w (eq h1) (ne h2)
    · rw [show (k == k') = false by simpa using h1]
      simp only [Bool.false_and]
      exact rsame_no0 w (ne h1)
/-- Their places are the same. -/
def placeEs : List Ex → List Ex → Bool
  | [], [] => true
  | .mk _ _ _ _ ks p :: r, .mk _ _ _ _ ks' p' :: s => p == p' && placeEs ks ks' && placeEs r s
  | _, _ => false
theorem placeEs_len : ∀ (l m : List Ex), placeEs l m = true → l.length = m.length
  | [], [], _ => rfl
  | [], _ :: _, h => by simp [placeEs] at h
  | .mk _ _ _ _ _ _ :: _, [], h => by simp [placeEs] at h
  | .mk _ _ _ _ _ _ :: r, .mk _ _ _ _ _ _ :: s, h => by
    simp only [placeEs, Bool.and_eq_true] at h
    have := placeEs_len r s h.2
    simp [this]
theorem placeEs_ne {l m : List Ex} (h : l.length ≠ m.length) : placeEs l m = false := by
  cases hs : placeEs l m with
  | false => rfl
  | true => exact absurd (placeEs_len l m hs) h
def placeFrom (l m : List Ex) (i : Nat) : Bool := placeEs (l.drop i) (m.drop i)
theorem placeFrom_step {l m : List Ex} {i : Nat} (hl : i < l.length) (hm : i < m.length) : placeFrom l m i = (l[i].pos == m[i].pos && placeEs l[i].kids m[i].kids && placeFrom l m (i + 1)) := by
  unfold placeFrom
  rw [List.drop_eq_getElem_cons hl, List.drop_eq_getElem_cons hm]
  cases l[i]; cases m[i]; simp only [placeEs]; rfl
theorem placeFrom_end {l m : List Ex} {i : Nat} (hl : l.length ≤ i) (hm : m.length ≤ i) : placeFrom l m i = true := by
  unfold placeFrom
  rw [List.drop_of_length_le hl, List.drop_of_length_le hm]
  simp [placeEs]
theorem placeEs_self : ∀ l : List Ex, placeEs l l = true := by
  intro l
  induction l using Exs.ind with
  | h0 => simp [placeEs]
  | h1 k o w n ks a r ih1 ih2 => simp [placeEs, ih1, ih2]
def PlC (l : List Ex) : Prop := okEs l → ∀ (m : List Ex) (a b : Option Addr) (c1 c2 : Nat) (w : World), l.length ≤ 65536 → exsAt (fun _ => True) w l a → exsAt (fun _ => True) w m b →
  Calls Tryd.prog 8 #[.slice a l.length c1, .slice b m.length c2] w fun e w' => e = .returned (.bool (placeEs l m)) ∧ ∃ j, w' = w.drewN j
theorem exsAt_drewN {R : Nat → Prop} {w : World} {l : List Ex} {a : Option Addr} (h : exsAt R w l a) (n : Nat) : exsAt R (w.drewN n) l a := exsAt_stays (w := w) (w' := w.drewN n) (fun b o v hb hv => hv) (fun b hb => hb) h
set_option maxRecDepth 100000 in
set_option maxHeartbeats 4000000 in
theorem r_places_one {l : List Ex} (HI : ∀ x ∈ l, PlC x.kids) : PlC l := by
  intro HO m a b c1 c2 w hl h1 h2
  by_cases hne : l.length = m.length
  · obtain ⟨R, hR⟩ : ∃ R, R = placeEs l m := ⟨_, rfl⟩
    rw [← hR]
    have HRR := Lib.hid hR
    have HI := Lib.hid HI
    have HO := Lib.hid HO
    have HL := Lib.hid hl
    have HLM := Lib.hid hne
    have E1 := Lib.hid h1
    have E2 := Lib.hid h2
    rw [← hne]
    obtain ⟨n, hn⟩ : ∃ n, n = l.length := ⟨_, rfl⟩
    rw [← hn]
    have HN := Lib.hid hn
    have hn6 : n ≤ 65536 := by omega
    have hnn : ((n : Int) != (n : Int)) = false := by simp
    clear hl hne h1 h2 hR hn
    go_enter Tryd.func8, Tryd.ntmps8
    go_wp2_with fail
    go_loopg [13] (n + 1) (fun m' u W => ∃ i : Nat, u = .int .i64 (i : Int) ∧ i ≤ n ∧ m' = n - i + 1 ∧ placeFrom l m i = R ∧ ∃ j, W = w.drewN j)
    case atStart => exact ⟨0, rfl, Nat.zero_le _, by omega, HRR.out.symm, 0, rfl⟩
    case round =>
      obtain ⟨i, rfl, hi, hm, hR, j0, hW0⟩ := hrel
      have HRI := Lib.hid hR
      have HM := Lib.hid hm
      have HW := Lib.hid hW0
      clear hR hm hW0
      by_cases hin : i < n
      · have HIN := Lib.hid hin
        have il : i < l.length := by have := HN.out; omega
        have im : i < m.length := by have := HLM.out; omega
        have g1 : l[i]? = some l[i] := List.getElem?_eq_getElem il
        have g2 : m[i]? = some m[i] := List.getElem?_eq_getElem im
        have hmem : l[i] ∈ l := List.getElem_mem il
        have hst := placeFrom_step il im
        generalize l[i] = x at g1 hst hmem
        generalize m[i] = y at g2 hst
        have hok := okEs_mem HO.out x hmem
        have HX := Lib.hid (HI.out x hmem)
        rcases E1.out with e | ⟨g, q, rfl, _, e1⟩
        · cases l with
          | nil => simp at il
          | cons => cases e
        rcases E2.out with e | ⟨g', q', rfl, _, e2⟩
        · cases m with
          | nil => simp at im
          | cons => cases e
        have x1 := exsIn_get i x e1 g1
        have y1 := exsIn_get i y e2 g2
        have HST := Lib.hid (HRI.out.symm.trans hst)
        obtain ⟨k, o, wd, nm, ks, ps⟩ := x
        obtain ⟨k', o', wd', nm', ks', ps'⟩ := y
        obtain ⟨_, _, _, _, ⟨ka, kc, a4, hka⟩, a5⟩ := x1
        obtain ⟨_, _, _, _, ⟨kb, kd, b4, hkb⟩, b5⟩ := y1
        have hin' : (i : Int) < (n : Int) := by omega
        have a4 : wr.cell? ⟨g, q + i * 6 + 4, none⟩ = some (.slice ka ks.length kc) := by rw [HW.out]; exact a4
        have a5 : wr.cell? ⟨g, q + i * 6 + 5, none⟩ = some (.int .i64 ps) := by rw [HW.out]; exact a5
        have b4 : wr.cell? ⟨g', q' + i * 6 + 4, none⟩ = some (.slice kb ks'.length kd) := by rw [HW.out]; exact b4
        have b5 : wr.cell? ⟨g', q' + i * 6 + 5, none⟩ = some (.int .i64 ps') := by rw [HW.out]; exact b5
        have HC : Hid (∀ j, Calls Tryd.prog 8 #[.slice ka ks.length kc, .slice kb ks'.length kd] (wr.drewN j) fun e' w' => e' = .returned (.bool (placeEs ks ks')) ∧ ∃ t, w' = wr.drewN t) := fun j =>
          (HX.out hok.2 _ _ _ _ _ (wr.drewN j) hok.1 (exsAt_drewN (by rw [HW.out]; exact exsAt_drewN hka j0) j) (exsAt_drewN (by rw [HW.out]; exact exsAt_drewN hkb j0) j)).mono fun e' w' ⟨he, t, ht⟩ => ⟨he, j + t, by rw [ht, World.drewN_drewN]⟩
        have HST : Hid (R = (ps == ps' && placeEs ks ks' && placeFrom l m (i + 1))) := HST.out
        generalize placeEs ks ks' = B at HST HC
        clear hst hmem g1 g2 e1 e2 hka hkb il im hok
        by_cases hps : (ps == ps') = true
        · have hps2 : (ps != ps') = false := by unfold bne; rw [hps]; rfl
          cases B with
          | false =>
            go_wp2_with fail
            go_quiet (first | (go_at_call 8; exact HC.out _))
            go_wp2_with fail
            go_ret
            exact ⟨by rw [HST.out]; simp, _, by rw [HW.out, World.drewN_drewN]⟩
          | true =>
            go_wp2_with fail
            go_quiet (first | (go_at_call 8; exact HC.out _))
            go_wp2_with fail
            go_roundg (n - (i + 1) + 1)
            case measure => have := HM.out; omega
            case rel => exact ⟨i + 1, rfl, by omega, by omega, by rw [HST.out, hps]; simp, _, by rw [HW.out, World.drewN_drewN]⟩
        · have hps2 : (ps != ps') = true := by unfold bne; simpa using hps
          have hps3 : (ps == ps') = false := by simpa using hps
          clear hps
          go_wp2_with fail
          go_quiet (first | (go_at_call 8; exact HC.out _))
          go_wp2_with fail
          go_ret
          exact ⟨by rw [HST.out, hps3]; rfl, _, by rw [HW.out, World.drewN_drewN]⟩
      · have : i = n := by omega
        subst this
        have hR : R = true := by rw [← HRI.out]; exact placeFrom_end (by have := HN.out; omega) (by have := HLM.out; have := HN.out; omega)
        have HRT := Lib.hid hR
        clear hR
        go_wp2_with fail
        go_ret
        exact ⟨by rw [HRT.out]; rfl, _, HW.out⟩
  · rw [placeEs_ne hne]
    obtain ⟨n, hn⟩ : ∃ n, n = l.length := ⟨_, rfl⟩
    obtain ⟨k, hk⟩ : ∃ k, k = m.length := ⟨_, rfl⟩
    rw [← hn] at hne hl ⊢
    rw [← hk] at hne ⊢
    have hq : ((n : Int) != (k : Int)) = true := by simp; omega
    clear h1 h2 HI HO hn hk
    go_enter Tryd.func8, Tryd.ntmps8
    go_wp2_with fail
    go_ret
    exact ⟨rfl, 0, rfl⟩
theorem r_kids : ∀ e : Ex, PlC e.kids := by
  intro e
  induction e using Ex.ind with
  | h k o w n ks p ih => exact r_places_one ih
theorem r_places (l : List Ex) : PlC l := r_places_one (fun x _ => r_kids x)
end Go.Proofs.YtgaibdipecngkaaDoor

namespace Go.Proofs.YtgaibdipecngkaaDoor
open Go.RowKit
set_option linter.unusedVariables false
def exB : Ex := .mk 4 1 0 ⟨#[]⟩ [.mk 1 0 1 ⟨#[]⟩ [] 30, .mk 4 3 0 ⟨#[]⟩ [.mk 1 0 2 ⟨#[]⟩ [] 34, .mk 2 0 0 ⟨#[120]⟩ [] 38] 36] 32
def pgB : Pg := ⟨[⟨⟨#[120]⟩, -3, 7⟩], [], [⟨⟨#[97]⟩, [], [.mk 1 ⟨#[120]⟩ ⟨#[]⟩ [exB] [] [] 26], 22⟩]⟩
def txt1 : List UInt8 := [115, 104, 97, 114, 101, 100, 32, 120, 32, 61, 32, 45, 51, 59, 32, 116, 104, 114, 101, 97, 100, 32, 97, 32, 123, 32, 120, 32, 61, 32, 49, 32, 43, 32, 50, 32, 42, 32, 120, 59, 32, 125]
def txt2 : List UInt8 := [116, 104, 114, 101, 97, 100, 32, 97, 32, 123, 32, 120, 32, 61, 32, 49, 32, 125]
set_option maxRecDepth 100000 in
theorem key1 : endR (endP (progP fnd 42 (fuel ((restL 0 txt1).1.map Res.tk)) ((restL 0 txt1).1.map Res.tk))) = (some pgB, 0, 0, 0) := by kernel_rfl
set_option maxRecDepth 100000 in
theorem key2 : endR (endP (progP fnd 18 (fuel ((restL 0 txt2).1.map Res.tk)) ((restL 0 txt2).1.map Res.tk))) = (none, 30, 17, 2) := by kernel_rfl
set_option maxRecDepth 100000 in
theorem said_one : said_P ⟨#[115, 104, 97, 114, 101, 100, 32, 120, 32, 61, 32, 45, 51, 59, 32, 116, 104, 114, 101, 97, 100, 32, 97, 32, 123, 32, 120, 32, 61, 32, 49, 32, 43, 32, 50, 32, 42, 32, 120, 59, 32, 125]⟩ = (some pgB, 0, 0, 0) := by
  unfold said_P wholeR
  have h : ¬ 65536 < (⟨#[115, 104, 97, 114, 101, 100, 32, 120, 32, 61, 32, 45, 51, 59, 32, 116, 104, 114, 101, 97, 100, 32, 97, 32, 123, 32, 120, 32, 61, 32, 49, 32, 43, 32, 50, 32, 42, 32, 120, 59, 32, 125]⟩ : ByteArray).size := by decide
  rw [if_neg h, front_list, if_neg (by
    intro h
    exact h (by kernel_rfl))]
  unfold scanX
  rw [if_neg h, front_list, if_pos (by kernel_rfl)]
  exact key1
set_option maxRecDepth 100000 in
theorem said_two : said_P ⟨#[116, 104, 114, 101, 97, 100, 32, 97, 32, 123, 32, 120, 32, 61, 32, 49, 32, 125]⟩ = (none, 30, 17, 2) := by
  unfold said_P wholeR
  have h : ¬ 65536 < (⟨#[116, 104, 114, 101, 97, 100, 32, 97, 32, 123, 32, 120, 32, 61, 32, 49, 32, 125]⟩ : ByteArray).size := by decide
  rw [if_neg h, front_list, if_neg (by
    intro h
    exact h (by kernel_rfl))]
  unfold scanX
  rw [if_neg h, front_list, if_pos (by kernel_rfl)]
  exact key2
end Go.Proofs.YtgaibdipecngkaaDoor

namespace Go.Proofs.YtgaibdipecngkaaDoor
open Go.RowKit
set_option linter.unusedVariables false
/-- The cells that are looked at. -/
theorem pgB_cells {n : Nat} {v : Value} {w : World} (h : pgR n pgB v w) : ∃ g1 q1 c1 a2 c2 g3 q3 c3 g4 q4 c4 g5 q5 c5 g6 q6 c6, v = .agg #[.slice (some ⟨g1, q1, none⟩) 1 c1, .slice a2 0 c2, .slice (some ⟨g3, q3, none⟩) 1 c3] ∧
    w.cell? ⟨g1, q1 + 1, none⟩ = some (.int .i64 (-3)) ∧ w.cell? ⟨g3, q3 + 2, none⟩ = some (.slice (some ⟨g4, q4, none⟩) 1 c4) ∧ w.cell? ⟨g4, q4 + 3, none⟩ = some (.slice (some ⟨g5, q5, none⟩) 1 c5) ∧
    w.cell? ⟨g5, q5 + 1, none⟩ = some (.int .u8 1) ∧ w.cell? ⟨g5, q5 + 4, none⟩ = some (.slice (some ⟨g6, q6, none⟩) 2 c6) ∧ w.cell? ⟨g6, q6 + 6 + 1, none⟩ = some (.int .u8 3) := by
  obtain ⟨a1, c1, a2, c2, a3, c3, rfl, h1, h2, h3⟩ := h
  rcases h1 with h1 | ⟨g1, q1, rfl, _, h1⟩
  · cases h1
  rcases h3 with h3 | ⟨g3, q3, rfl, _, h3⟩
  · cases h3
  obtain ⟨⟨_, d1, _⟩, _⟩ := h1
  obtain ⟨⟨_, _, ⟨a4, c4, t2, h4⟩, _⟩, _⟩ := h3
  rcases h4 with h4 | ⟨g4, q4, rfl, _, h4⟩
  · cases h4
  obtain ⟨⟨_, _, _, ⟨a5, c5, s3, h5⟩, _⟩, _⟩ := h4
  rcases h5 with h5 | ⟨g5, q5, rfl, _, h5⟩
  · cases h5
  obtain ⟨⟨_, e1, _, _, ⟨a6, c6, e4, h6⟩, _⟩, _⟩ := h5
  rcases h6 with h6 | ⟨g6, q6, rfl, _, h6⟩
  · cases h6
  obtain ⟨_, ⟨_, f1, _⟩, _⟩ := h6
  exact ⟨g1, q1, c1, a2, c2, g3, q3, c3, g4, q4, c4, g5, q5, c5, g6, q6, c6, rfl, d1, t2, s3, e1, e4, f1⟩
set_option maxRecDepth 100000 in
set_option maxHeartbeats 8000000 in
theorem p_lives {w : World} (T : LTabs w) (TW : Tabs w) : Calls Tryd.prog 6 #[] w fun e w' => e = .returned (.bool true) ∧ Below w.heap.size w w' := by
  have HP : Hid (∀ s W, LTabs W → Tabs W → Calls Tryd.prog 15 #[.string s] W (WhPost W zPg pgR (said_P s))) := fun s W T TW => p_Parse s T TW
  have HT := Lib.hid (And.intro T TW)
  clear T TW
  go_enter Tryd.func6, Tryd.ntmps6
  go_wp2_with fail
  go_at_call 15
  refine (HP.out ⟨#[115, 104, 97, 114, 101, 100, 32, 120, 32, 61, 32, 45, 51, 59, 32, 116, 104, 114, 101, 97, 100, 32, 97, 32, 123, 32, 120, 32, 61, 32, 49, 32, 43, 32, 50, 32, 42, 32, 120, 59, 32, 125]⟩ _ HT.out.1 HT.out.2).mono ?_
  rintro e w1 ⟨hb1, v, rfl, hv⟩
  rw [said_one] at hv ⊢
  have hv : pgR w.heap.size pgB v w1 := hv
  obtain ⟨g1, q1, c1, a2, c2, g3, q3, c3, g4, q4, c4, g5, q5, c5, g6, q6, c6, rfl, d1, d2, d3, d4, d5, d6⟩ := pgB_cells hv
  have l1 := lt_of_at d1
  have l2 := lt_of_at d2
  have l3 := lt_of_at d3
  have l4 := lt_of_at d4
  have l6 := lt_of_at d6
  simp only at l1 l2 l3 l4 l6
  clear hv
  have O1 := (Own.new w1 51 #[.slice (some ⟨g1, q1, none⟩) 1 c1, .slice a2 0 c2, .slice (some ⟨g3, q3, none⟩) 1 c3]).alloc (.cells #[.int .i64 0, .int .i64 0] 29)
  have Z1 := (Own.new w1 51 #[.slice none 0 0, .slice none 0 0, .slice none 0 0]).alloc (.cells #[.int .i64 0, .int .i64 0] 29)
  have Z2 := Own.new (w1.alloc (.cells #[.slice none 0 0, .slice none 0 0, .slice none 0 0] 51)) 29 #[.int .i64 0, .int .i64 0]
  rw [World.size_alloc] at Z2
  have Z2' := Z2.other (g := w1.heap.size) #[.slice (some ⟨g1, q1, none⟩) 1 c1, .slice a2 0 c2, .slice (some ⟨g3, q3, none⟩) 1 c3] (by omega)
  have P1 := Lib.hid ((Z1.row #[.slice (some ⟨g1, q1, none⟩) 1 c1, .slice a2 0 c2, .slice (some ⟨g3, q3, none⟩) 1 c3]).other (g := w1.heap.size + 1) #[.int .i64 0, .int .i64 0] (by omega))
  have B1 := Lib.hid (Below.of_row (Below.of_row (((Below.refl w1.heap.size w1).alloc (Nat.le_refl _) (.cells #[.slice none 0 0, .slice none 0 0, .slice none 0 0] 51)).alloc (by rw [World.size_alloc]; omega) (.cells #[.int .i64 0, .int .i64 0] 29)) (g := w1.heap.size) (Nat.le_refl _) #[.slice (some ⟨g1, q1, none⟩) 1 c1, .slice a2 0 c2, .slice (some ⟨g3, q3, none⟩) 1 c3]) (g := w1.heap.size + 1) (by omega) #[.int .i64 0, .int .i64 0])
  have zz : Hid (((((w1.alloc (.cells #[.slice none 0 0, .slice none 0 0, .slice none 0 0] 51)).alloc (.cells #[.int .i64 0, .int .i64 0] 29)).setRow w1.heap.size #[.slice (some ⟨g1, q1, none⟩) 1 c1, .slice a2 0 c2, .slice (some ⟨g3, q3, none⟩) 1 c3]).setRow (w1.heap.size + 1) #[.int .i64 0, .int .i64 0]).heap.size = w1.heap.size + 2) := by simp only [Hid, size_setRow, World.size_alloc]
  have HB1 := Lib.hid hb1
  have D := Lib.hid (And.intro d1 (And.intro d2 (And.intro d3 (And.intro d4 (And.intro d5 d6)))))
  have LL := Lib.hid (And.intro l1 (And.intro l2 (And.intro l3 (And.intro l4 l6))))
  clear O1 hb1 d1 d2 d3 d4 d5 d6 l1 l2 l3 l4 l6 Z2
  go_upto_region 2 with (first | (refine st rowPg rfl rfl Z1 rfl rfl (by rfl) (by rfl) (by kernel_rfl) ?_) | (refine st rowFl rfl rfl Z2' rfl rfl (by rfl) (by rfl) (by kernel_rfl) ?_))
  obtain ⟨W2, hW2⟩ : ∃ W, W = ((((w1.alloc (.cells #[.slice none 0 0, .slice none 0 0, .slice none 0 0] 51)).alloc (.cells #[.int .i64 0, .int .i64 0] 29)).setRow w1.heap.size #[.slice (some ⟨g1, q1, none⟩) 1 c1, .slice a2 0 c2, .slice (some ⟨g3, q3, none⟩) 1 c3]).setRow (w1.heap.size + 1) #[.int .i64 0, .int .i64 0]) := ⟨_, rfl⟩
  rw [← hW2] at P1 B1 zz ⊢
  clear hW2 Z1 Z2'
  have T2 : Hid (LTabs W2 ∧ Tabs W2) := ⟨(HT.out.1.below (Nat.le_refl _) HB1.out).below (Nat.le_refl _) B1.out, (HT.out.2.below (Nat.le_refl _) HB1.out).below (Nat.le_refl _) B1.out⟩
  go_wp2_with fail
  go_at_call 15
  refine (HP.out ⟨#[116, 104, 114, 101, 97, 100, 32, 97, 32, 123, 32, 120, 32, 61, 32, 49, 32, 125]⟩ _ T2.out.1 T2.out.2).mono ?_
  rintro e w3 ⟨hb3, v, rfl, hv⟩
  rw [said_two] at hv ⊢
  obtain rfl : v = .agg #[.slice none 0 0, .slice none 0 0, .slice none 0 0] := hv
  have Y1 := (Own.new w3 51 #[.slice none 0 0, .slice none 0 0, .slice none 0 0]).alloc (.cells #[.int .i64 0, .int .i64 0] 29)
  have Y2 := Own.new (w3.alloc (.cells #[.slice none 0 0, .slice none 0 0, .slice none 0 0] 51)) 29 #[.int .i64 0, .int .i64 0]
  rw [World.size_alloc] at Y2
  have Y2' := Y2.other (g := w3.heap.size) #[.slice none 0 0, .slice none 0 0, .slice none 0 0] (by omega)
  have E2 := Y2'.row #[.int .i64 17, .int .i64 2]
  have B3 := Below.of_row (Below.of_row (((Below.refl w3.heap.size w3).alloc (Nat.le_refl _) (.cells #[.slice none 0 0, .slice none 0 0, .slice none 0 0] 51)).alloc (by rw [World.size_alloc]; omega) (.cells #[.int .i64 0, .int .i64 0] 29)) (g := w3.heap.size) (Nat.le_refl _) #[.slice none 0 0, .slice none 0 0, .slice none 0 0]) (g := w3.heap.size + 1) (by omega) #[.int .i64 17, .int .i64 2]
  have s12 : w1.heap.size + 2 ≤ W2.heap.size := by have := zz.out; omega
  have s23 := hb3.size
  have A1 := (P1.out.below hb3).below B3
  have BB := ((B1.out.trans (hb3.mono (by omega))).trans (B3.mono (by omega)))
  have HBB := Lib.hid BB
  have HA1 := Lib.hid A1
  have HE2 := Lib.hid E2
  clear hb3 Y2 A1 B3 BB E2 s12 s23
  go_upto_region 3 with (first | (refine st rowPg rfl rfl Y1 rfl rfl (by rfl) (by rfl) (by kernel_rfl) ?_) | (refine st rowFl rfl rfl Y2' rfl rfl (by rfl) (by rfl) (by kernel_rfl) ?_))
  obtain ⟨W4, hW4⟩ : ∃ W, W = ((((w3.alloc (.cells #[.slice none 0 0, .slice none 0 0, .slice none 0 0] 51)).alloc (.cells #[.int .i64 0, .int .i64 0] 29)).setRow w3.heap.size #[.slice none 0 0, .slice none 0 0, .slice none 0 0]).setRow (w3.heap.size + 1) #[.int .i64 17, .int .i64 2]) := ⟨_, rfl⟩
  rw [← hW4] at HBB HA1 HE2 ⊢
  clear hW4 Y1 Y2'
  obtain ⟨d1, d2, d3, d4, d5, d6⟩ := D.out
  obtain ⟨l1, l2, l3, l4, l6⟩ := LL.out
  have d1 := (HBB.out.cell (p := ⟨g1, q1 + 1, none⟩) l1).trans d1
  have d2 := (HBB.out.cell (p := ⟨g3, q3 + 2, none⟩) l2).trans d2
  have d3 := (HBB.out.cell (p := ⟨g4, q4 + 3, none⟩) l3).trans d3
  have d4 := (HBB.out.cell (p := ⟨g5, q5 + 1, none⟩) l4).trans d4
  have d5 := (HBB.out.cell (p := ⟨g5, q5 + 4, none⟩) l4).trans d5
  have d6 := (HBB.out.cell (p := ⟨g6, q6 + 6 + 1, none⟩) l6).trans d6
  have f0 : W4.cell? ⟨w1.heap.size, 0, none⟩ = some (.slice (some ⟨g1, q1, none⟩) 1 c1) := by rw [cell_of_row _ _ 0 _ _ _ HA1.out]; rfl
  have f2 : W4.cell? ⟨w1.heap.size, 2, none⟩ = some (.slice (some ⟨g3, q3, none⟩) 1 c3) := by rw [cell_of_row _ _ 2 _ _ _ HA1.out]; rfl
  have e0 : W4.cell? ⟨w3.heap.size + 1, 0, none⟩ = some (.int .i64 17) := by rw [cell_of_row _ _ 0 _ _ _ HE2.out]; rfl
  have e1 : W4.cell? ⟨w3.heap.size + 1, 1, none⟩ = some (.int .i64 2) := by rw [cell_of_row _ _ 1 _ _ _ HE2.out]; rfl
  clear l1 l2 l3 l4 l6
  go_wp2
  go_ret
  exact ⟨rfl, HB1.out.trans (HBB.out.mono HB1.out.size)⟩
end Go.Proofs.YtgaibdipecngkaaDoor

namespace Go.Proofs.YtgaibdipecngkaaDoor
set_option linter.unusedVariables false
theorem said_list {l : List UInt8} (h : l.length ≤ 65536) (hf : (restL 0 l).2.2 = 0) : said_E ⟨l.toArray⟩ = endR (endP (binE fnd (l.length : Nat) (fuel ((restL 0 l).1.map Res.tk)) 1 0 ((restL 0 l).1.map Res.tk))) := by
  have hsz : (⟨l.toArray⟩ : ByteArray).size = l.length := by simp [ByteArray.size]
  have h1 : ¬ 65536 < (⟨l.toArray⟩ : ByteArray).size := by rw [hsz]; omega
  have hfr : frontR ⟨l.toArray⟩ = restL 0 l := by rw [front_list]
  unfold said_E wholeR scanX
  rw [if_neg h1, hfr, hsz, if_neg (by simpa using hf), if_neg (by omega : ¬ 65536 < l.length), if_pos hf]
def lvText (a b : Nat) (less : Bool) : List UInt8 := [120, 32] ++ sgnAt a ++ [32, 121, 32] ++ sgnAt b ++ [32] ++ (if less then [45, 32, 122] else [122])
def goodE (a b : Int) : Ex → Bool
  | .mk k o _ _ [.mk _ o0 _ n0 ks0 _, .mk _ o1 _ _ _ _] _ => k == 4 && (if levelOf b > levelOf a then o == a && n0.data.toList == [120] && o1 == b else o == b && o0 == a && (match ks0 with | [_, .mk _ _ _ n _ _] => n.data.toList == [121] | _ => false))
  | _ => false
def goodR (a b : Int) : Option Ex × Int × Int × Int → Bool
  | (some e, 0, 0, 0) => goodE a b e
  | _ => false
def lvOk (a b : Nat) (less : Bool) : Bool :=
  (restL 0 (lvText a b less)).2.2 == 0 && goodR a b (endR (endP (binE fnd ((lvText a b less).length : Nat) (fuel ((restL 0 (lvText a b less)).1.map Res.tk)) 1 0 ((restL 0 (lvText a b less)).1.map Res.tk))))
set_option maxRecDepth 100000 in
theorem lv_all : ((List.range 16).all fun a => (List.range 16).all fun b => lvOk (a + 1) (b + 1) false && lvOk (a + 1) (b + 1) true) = true := by kernel_rfl
theorem lv_len : ((List.range 16).all fun a => (List.range 16).all fun b => decide ((lvText (a + 1) (b + 1) false).length ≤ 65536) && decide ((lvText (a + 1) (b + 1) true).length ≤ 65536)) = true := by kernel_rfl
theorem lv_said {a b : Nat} (ha : 1 ≤ a ∧ a ≤ 16) (hb : 1 ≤ b ∧ b ≤ 16) (less : Bool) : ∃ e, said_E ⟨(lvText a b less).toArray⟩ = (some e, 0, 0, 0) ∧ goodE a b e = true := by
  have h1 := List.all_eq_true.1 (List.all_eq_true.1 lv_all (a - 1) (List.mem_range.2 (by omega))) (b - 1) (List.mem_range.2 (by omega))
  have h2 := List.all_eq_true.1 (List.all_eq_true.1 lv_len (a - 1) (List.mem_range.2 (by omega))) (b - 1) (List.mem_range.2 (by omega))
  have ea : a - 1 + 1 = a := by omega
  have eb : b - 1 + 1 = b := by omega
  rw [ea, eb] at h1 h2
  simp only [Bool.and_eq_true, decide_eq_true_eq] at h1 h2
  have h3 : lvOk a b less = true := by cases less; exact h1.1; exact h1.2
  have h4 : (lvText a b less).length ≤ 65536 := by cases less; exact h2.1; exact h2.2
  unfold lvOk at h3
  simp only [Bool.and_eq_true, beq_iff_eq] at h3
  rw [said_list h4 h3.1]
  have h5 := h3.2
  generalize endR (endP (binE fnd ((lvText a b less).length : Nat) (fuel ((restL 0 (lvText a b less)).1.map Res.tk)) 1 0 ((restL 0 (lvText a b less)).1.map Res.tk))) = R at h5 ⊢
  obtain ⟨r1, r2, r3, r4⟩ := R
  unfold goodR at h5
  split at h5
  · rename_i e he
    cases he
    exact ⟨e, rfl, h5⟩
  · cases h5
end Go.Proofs.YtgaibdipecngkaaDoor

namespace Go.Proofs.YtgaibdipecngkaaDoor
open Go.RowKit
set_option linter.unusedVariables false

def stopH : List UInt8 → Bool
  | [] => true
  | c :: _ => blankB (c.toNat : Int)
theorem blank_vals {c : UInt8} (h : blankB (c.toNat : Int) = true) : c = 32 ∨ c = 9 ∨ c = 10 ∨ c = 13 := by
  unfold blankB at h
  rcases of_decide_eq_true h with h | h | h | h
  · exact .inl (u8_int.1 h)
  · exact .inr (.inl (u8_int.1 h))
  · exact .inr (.inr (.inl (u8_int.1 h)))
  · exact .inr (.inr (.inr (u8_int.1 h)))
theorem span_stop {f : Int → Bool} {X : List UInt8} (hX : stopH X = true) (hf : ∀ c : UInt8, blankB (c.toNat : Int) = true → f (c.toNat : Int) = false) : ∀ p : List UInt8, spanN f (p ++ X) = spanN f p
  | [] => by
    cases X with
    | nil => rfl
    | cons c r => simp only [List.nil_append, spanN]; rw [if_neg (by rw [hf c hX]; decide)]
  | c :: p => by simp only [List.cons_append, spanN, span_stop hX hf p]
theorem span_cut {f : Int → Bool} (X : List UInt8) : ∀ p : List UInt8, spanN f (p ++ X) ≤ p.length → spanN f p = spanN f (p ++ X)
  | [], h => by simp only [List.length_nil] at h; simp only [spanN]; omega
  | c :: p, h => by
    simp only [List.cons_append, spanN, List.length_cons] at h ⊢
    split
    · rename_i hc
      rw [if_pos hc] at h
      rw [span_cut X p (by omega)]
    · rfl
theorem named_blank (c : UInt8) (h : blankB (c.toNat : Int) = true) : namedB (c.toNat : Int) = false := by
  rcases blank_vals h with rfl | rfl | rfl | rfl <;> decide
theorem digit_blank (c : UInt8) (h : blankB (c.toNat : Int) = true) : digitB (c.toNat : Int) = false := by
  rcases blank_vals h with rfl | rfl | rfl | rfl <;> decide
theorem letter_blank (c : UInt8) (h : blankB (c.toNat : Int) = true) : letterB (c.toNat : Int) = false := by
  rcases blank_vals h with rfl | rfl | rfl | rfl <;> decide
theorem letterH_stop {X : List UInt8} (h : stopH X = true) : letterH X = false := by
  cases X with
  | nil => rfl
  | cons c r => exact letter_blank c h
def longW (l : List UInt8) : Bool := List.isPrefixOf [61, 61] l || List.isPrefixOf [33, 61] l || List.isPrefixOf [60, 61] l || List.isPrefixOf [62, 61] l || List.isPrefixOf [60, 60] l || List.isPrefixOf [62, 62] l
theorem longW_eq (l : List UInt8) : longB l = longW l := rfl
theorem longW_nil : longB [] = false := by rw [longW_eq]; rfl
theorem longW_one (c : UInt8) : longB [c] = false := by
  rw [longW_eq]; simp [longW, List.isPrefixOf]
theorem longW_cons (c d : UInt8) (r : List UInt8) : longB (c :: d :: r) = longB [c, d] := by
  rw [longW_eq, longW_eq]; simp only [longW, List.isPrefixOf_cons_cons, List.isPrefixOf_nil_left]
theorem longW_blank (c d : UInt8) (h : blankB (d.toNat : Int) = true) : longB [c, d] = false := by
  rw [longW_eq]
  rcases blank_vals h with rfl | rfl | rfl | rfl <;> simp [longW, List.isPrefixOf]
theorem ahead_stop (c : UInt8) (p : List UInt8) {X : List UInt8} (hX : stopH X = true) : aheadN (c :: p ++ X) = aheadN (c :: p) := by
  unfold aheadN
  have e : longB (c :: p ++ X) = longB (c :: p) := by
    cases p with
    | nil =>
      cases X with
      | nil => rfl
      | cons d r => rw [longW_one, List.cons_append, List.nil_append, longW_cons, longW_blank c d hX]
    | cons d p => simp only [List.cons_append]; rw [longW_cons, longW_cons c d p]
  rw [e]
  rfl
theorem ahead_cut (c : UInt8) (p X : List UInt8) (h : aheadN (c :: p ++ X) ≤ (c :: p).length) : aheadN (c :: p) = aheadN (c :: p ++ X) := by
  unfold aheadN at h ⊢
  cases p with
  | cons d p =>
    simp only [List.cons_append] at h ⊢
    rw [longW_cons c d (p ++ X), longW_cons c d p]
    rfl
  | nil =>
    by_cases hl : longB ([c] ++ X) = true
    · rw [if_pos hl] at h; simp at h
    · rw [if_neg hl, if_neg (by rw [longW_one]; decide)]
      rfl
theorem nextL_stop {p X : List UInt8} (hp : ¬ p = []) (hX : stopH X = true) : nextL (p ++ X) = nextL p := by
  cases p with
  | nil => exact absurd rfl hp
  | cons c p =>
    have hn := span_stop hX named_blank (c :: p)
    have hd := span_stop hX digit_blank (c :: p)
    have hnl := spanN_le namedB (c :: p)
    have hdl := spanN_le digitB (c :: p)
    have hs := ahead_stop c p hX
    have e1 : nameL (c :: p ++ X) = nameL (c :: p) := by
      unfold nameL
      rw [hn, List.take_append_of_le_length hnl]
    have e2 : numL (c :: p ++ X) = numL (c :: p) := by
      unfold numL
      rw [hd, List.take_append_of_le_length hdl, List.drop_append_of_le_length hdl]
      have : letterH (List.drop (spanN digitB (c :: p)) (c :: p) ++ X) = letterH (List.drop (spanN digitB (c :: p)) (c :: p)) := by
        cases h : List.drop (spanN digitB (c :: p)) (c :: p) with
        | nil => rw [List.nil_append, letterH_stop hX]; rfl
        | cons d r => rfl
      rw [this]
    simp only [List.cons_append] at e1 e2 hs ⊢
    simp only [nextL]
    rw [e1, e2, hs]
theorem nextL_cut {p X : List UInt8} (hp : ¬ p = []) (h : (nextL (p ++ X)).fr = 0) (hn : (nextL (p ++ X)).n ≤ p.length) : nextL p = nextL (p ++ X) := by
  cases p with
  | nil => exact absurd rfl hp
  | cons c p =>
    simp only [List.cons_append, nextL] at h hn ⊢
    by_cases h0 : letterB (c.toNat : Int) = true
    · rw [if_pos h0] at h hn
      rw [if_pos h0, if_pos h0]
      have hle : spanN namedB (c :: (p ++ X)) ≤ (c :: p).length := by
        unfold nameL at h hn
        split at h
        · rename_i hw; rw [if_pos hw] at hn; exact hn
        · rename_i hw
          rw [if_neg hw] at hn
          split at h
          · simp at h
          · rename_i h3; rw [if_neg h3] at hn; exact hn
      have k := span_cut X (c :: p) hle
      have kl := spanN_le namedB (c :: p)
      unfold nameL
      have e := (List.take_append_of_le_length (l₂ := X) kl).symm
      simp only [List.cons_append] at k e
      rw [k] at e
      rw [k, e]
    · rw [if_neg h0] at h hn
      rw [if_neg h0, if_neg h0]
      by_cases h1 : digitB (c.toNat : Int) = true
      · rw [if_pos h1] at h hn
        rw [if_pos h1, if_pos h1]
        unfold numL at h hn ⊢
        cases hv : valueO ((c :: (p ++ X)).take (spanN digitB (c :: (p ++ X)))) with
        | none => rw [hv] at h; simp [numK] at h
        | some v =>
          rw [hv] at h hn
          simp only [numK] at h hn
          have hb : letterH ((c :: (p ++ X)).drop (spanN digitB (c :: (p ++ X)))) = false := by
            cases hb : letterH ((c :: (p ++ X)).drop (spanN digitB (c :: (p ++ X)))) with
            | false => rfl
            | true => rw [hb] at h; simp at h
          rw [hb] at hn
          have hle : spanN digitB (c :: (p ++ X)) ≤ (c :: p).length := hn
          have k := span_cut X (c :: p) hle
          have kl := spanN_le digitB (c :: p)
          have e := (List.take_append_of_le_length (l₂ := X) kl).symm
          have e2 := (List.drop_append_of_le_length (l₂ := X) kl)
          simp only [List.cons_append] at k e e2
          rw [k] at e e2
          rw [k, e, hv, hb]
          have : letterH (List.drop (spanN digitB (c :: (p ++ X))) (c :: p)) = false := by
            rw [e2] at hb
            cases hd : List.drop (spanN digitB (c :: (p ++ X))) (c :: p) with
            | nil => rfl
            | cons d r => rw [hd] at hb; exact hb
          rw [this]
      · rw [if_neg h1] at h hn
        rw [if_neg h1, if_neg h1]
        by_cases h2 : signB (c.toNat : Int) = true
        · rw [if_pos h2] at hn
          rw [if_pos h2, if_pos h2]
          have k := ahead_cut c p X hn
          simp only [List.cons_append] at k
          rw [k]
        · rw [if_neg h2, if_neg h2]
end Go.Proofs.YtgaibdipecngkaaDoor

namespace Go.Proofs.YtgaibdipecngkaaDoor
set_option linter.unusedVariables false
def bareR (x : Res) : Int × ByteArray × Int := (x.kind, x.text, x.wd)
theorem like_of {xs ys : List Res} (h : xs.map bareR = ys.map bareR) : Like (xs.map Res.tk) (ys.map Res.tk) := by
  unfold Like
  rw [List.map_map, List.map_map]
  exact h
theorem rest_end (Z : List UInt8) : ∀ (k : Nat) (l : List UInt8) (e e' : Nat) (xs : List Res), l.length ≤ k → restL e l = (xs, 0, 0) →
    ∃ ys q, restL e' (l ++ 10 :: Z) = (ys ++ (restL q Z).1, (restL q Z).2) ∧ xs.map bareR = ys.map bareR := by
  intro k
  induction k with
  | zero =>
    intro l e e' xs hl h
    have : l = [] := List.eq_nil_of_length_eq_zero (by omega)
    subst this
    have hx : xs = [] := by
      have : restL e [] = ([], 0, 0) := rfl
      rw [this] at h
      exact (congrArg Prod.fst h).symm
    subst hx
    refine ⟨[], e' + 1, ?_, rfl⟩
    have hs : sk false (10 :: Z) = 1 + sk false Z := rfl
    show lexL (e' + sk false (10 :: Z)) ((10 :: Z).drop (sk false (10 :: Z))) = _
    rw [hs, Nat.add_comm 1 (sk false Z), List.drop_succ_cons]
    show _ = lexL (e' + 1 + sk false Z) (Z.drop (sk false Z))
    rw [show e' + (sk false Z + 1) = e' + 1 + sk false Z by omega]
  | succ k ih =>
    intro l e e' xs hl h
    by_cases hm : l.drop (sk false l) = []
    · have hx : xs = [] := by
        rw [rest_nil hm] at h
        exact (congrArg Prod.fst h).symm
      subst hx
      have hlen : sk false l = l.length := by
        have h1 := sk_le false l
        have h2 : l.length ≤ sk false l := by simpa using hm
        omega
      obtain ⟨b', _, hb⟩ := sk_over false l [] (by simpa using hlen)
      refine ⟨[], e' + l.length + 1, ?_, rfl⟩
      have hs : sk false (l ++ 10 :: Z) = l.length + (1 + sk false Z) := by
        rw [hb]
        cases b' <;> rfl
      show lexL (e' + sk false (l ++ 10 :: Z)) ((l ++ 10 :: Z).drop (sk false (l ++ 10 :: Z))) = _
      rw [hs, List.drop_append, List.drop_of_length_le (by omega), List.nil_append, show l.length + (1 + sk false Z) - l.length = sk false Z + 1 by omega, List.drop_succ_cons]
      show _ = lexL (e' + l.length + 1 + sk false Z) (Z.drop (sk false Z))
      rw [show e' + (l.length + (1 + sk false Z)) = e' + l.length + 1 + sk false Z by omega]
    · have hlt : sk false l < l.length := by
        apply Nat.lt_of_not_le
        intro hn
        exact hm (by simpa using hn)
      have hskY : sk false (l ++ 10 :: Z) = sk false l := by
        have := sk_in false l [] (10 :: Z) (by simpa using hlt) (by simp)
        simpa using this
      obtain ⟨m, hmm⟩ : ∃ m, l.drop (sk false l) = m := ⟨_, rfl⟩
      rw [hmm] at hm
      have hmY : (l ++ 10 :: Z).drop (sk false (l ++ 10 :: Z)) = m ++ 10 :: Z := by
        rw [hskY, List.drop_append_of_le_length (by omega), hmm]
      have hnx : nextL (m ++ 10 :: Z) = nextL m := nextL_stop hm (by rfl)
      have hf : (nextL m).fr = 0 := by
        apply Classical.byContradiction
        intro hf
        rw [rest_fault hmm hm hf] at h
        exact hf (congrArg (fun x => x.2.2) h)
      have hg := nextL_good m hf
      rw [rest_tok hmm hf] at h
      have hmk : (m.drop (nextL m).n).length ≤ k := by
        have : m.length ≤ l.length := by rw [← hmm]; simp
        rw [List.length_drop]; omega
      have h2 : restL (e + sk false l + (nextL m).n) (m.drop (nextL m).n) = ((restL (e + sk false l + (nextL m).n) (m.drop (nextL m).n)).1, 0, 0) := by
        have := congrArg Prod.snd h
        simp only at this
        rw [← this]
      obtain ⟨ys, q, h3, h4⟩ := ih _ _ (e' + sk false l + (nextL m).n) _ hmk h2
      have hfY : (nextL (m ++ 10 :: Z)).fr = 0 := by rw [hnx]; exact hf
      refine ⟨toRes (e' + sk false l) (m ++ 10 :: Z) (nextL m) :: ys, q, ?_, ?_⟩
      · rw [rest_tok hmY hfY, hnx, hskY, List.drop_append_of_le_length hg.2, h3]
        rfl
      · have hx := congrArg Prod.fst h
        simp only at hx
        rw [← hx, List.map_cons, List.map_cons, h4]
        congr 1
        unfold toRes
        rw [if_pos hf, if_pos hf]
        simp only [bareR]
        rw [List.take_append_of_le_length hg.2]
theorem rest_open (X : List UInt8) : restL 0 (40 :: X) = (⟨4, ⟨#[40]⟩, 0, 0, 0, 0⟩ :: (restL 1 X).1, (restL 1 X).2) := by
  have ha : aheadN (40 :: X) = 1 := by
    unfold aheadN
    have : longB (40 :: X) = false := by
      cases X with
      | nil => exact longW_one 40
      | cons d r => rw [longW_cons, longW_eq]; simp [longW, List.isPrefixOf]
    rw [this]
    rfl
  have hn : nextL (40 :: X) = ⟨4, 1, 0, 0, 0⟩ := by
    show (if letterB ((40 : UInt8).toNat : Int) = true then nameL (40 :: X) else if digitB ((40 : UInt8).toNat : Int) = true then numL (40 :: X) else if signB ((40 : UInt8).toNat : Int) = true then (⟨4, aheadN (40 :: X), 0, 0, 0⟩ : Nx) else ⟨0, 0, 0, 0, 1⟩) = _
    rw [if_neg (by decide), if_neg (by decide), if_pos (by decide), ha]
  have hs : sk false (40 :: X) = 0 := by
    show (if blankB ((40 : UInt8).toNat : Int) = true then 1 + sk false X else if (40 : UInt8) = 47 ∧ X.head? = some 47 then 1 + sk true X else 0) = 0
    rw [if_neg (by decide), if_neg (fun h => absurd h.1 (by decide))]
  have h := rest_tok (e := 0) (l := 40 :: X) (m := 40 :: X) (by rw [hs]; rfl) (by rw [hn])
  rw [h, hs, hn]
  rfl
theorem rest_close (q : Nat) : restL q [41] = ([⟨4, ⟨#[41]⟩, 0, q, 0, 0⟩], 0, 0) := by
  have h := rest_tok (e := q) (l := [41]) (m := [41]) (by rfl) (by rfl)
  rw [h]
  rfl
end Go.Proofs.YtgaibdipecngkaaDoor

namespace Go.Proofs.YtgaibdipecngkaaDoor
set_option linter.unusedVariables false
section
variable {fnd : Bs → Int × Bool} {L L' : Int}
theorem more_fuel : ∀ n : Nat, (∀ d ts e r, opnd fnd L n d ts = .ok e r → ∀ m, n ≤ m → opnd fnd L m d ts = .ok e r) ∧ (∀ v d ts e r, binE fnd L n v d ts = .ok e r → ∀ m, n ≤ m → binE fnd L m v d ts = .ok e r) ∧ (∀ v d a ts e r, binL fnd L n v d a ts = .ok e r → ∀ m, n ≤ m → binL fnd L m v d a ts = .ok e r) := by
  intro n
  induction n with
  | zero => exact ⟨fun d ts e r h => by simp [opnd] at h, fun v d ts e r h => by simp [binE] at h, fun v d a ts e r h => by simp [binL] at h⟩
  | succ n ih =>
    obtain ⟨i1, i2, i3⟩ := ih
    refine ⟨fun d ts e r h m hm => ?_, fun v d ts e r h m hm => ?_, fun v d a ts e r h m hm => ?_⟩
    · obtain ⟨m, rfl⟩ : ∃ k, m = k + 1 := ⟨m - 1, by omega⟩
      have hm : n ≤ m := by omega
      cases ts with
      | nil => simp [opnd] at h
      | cons t q =>
        simp only [opnd] at h ⊢
        split at h
        · rename_i h1; rw [if_pos h1]; exact h
        rename_i h1; rw [if_neg h1]
        split at h
        · rename_i h2; rw [if_pos h2]; exact h
        rename_i h2; rw [if_neg h2]
        split at h
        · rename_i h3
          rw [if_pos h3]
          split at h
          · cases h
          · rename_i h4
            rw [if_neg h4]
            obtain ⟨x, y, k1, k2⟩ := PR.then_eq_ok h
            rw [i1 _ _ _ _ k1 m hm]
            exact k2
        rename_i h3; rw [if_neg h3]
        split at h
        · rename_i h4
          rw [if_pos h4]
          split at h
          · cases h
          · rename_i h5
            rw [if_neg h5]
            obtain ⟨x, y, k1, k2⟩ := PR.then_eq_ok h
            rw [i1 _ _ _ _ k1 m hm]
            exact k2
        rename_i h4; rw [if_neg h4]
        split at h
        · rename_i h5
          rw [if_pos h5]
          split at h
          · cases h
          · rename_i h6
            rw [if_neg h6]
            obtain ⟨x, y, k1, k2⟩ := PR.then_eq_ok h
            rw [i2 _ _ _ _ _ k1 m hm]
            exact k2
        · cases h
    · obtain ⟨m, rfl⟩ : ∃ k, m = k + 1 := ⟨m - 1, by omega⟩
      have hm : n ≤ m := by omega
      simp only [binE] at h ⊢
      obtain ⟨x, y, k1, k2⟩ := PR.then_eq_ok h
      rw [i1 _ _ _ _ k1 m hm]
      exact i3 _ _ _ _ _ _ k2 m hm
    · obtain ⟨m, rfl⟩ : ∃ k, m = k + 1 := ⟨m - 1, by omega⟩
      have hm : n ≤ m := by omega
      cases ts with
      | nil => simp only [binL] at h ⊢; exact h
      | cons t q =>
        simp only [binL] at h ⊢
        split at h
        · rename_i h1
          rw [if_pos h1]
          obtain ⟨x, y, k1, k2⟩ := PR.then_eq_ok h
          rw [i2 _ _ _ _ _ k1 m hm]
          exact i3 _ _ _ _ _ _ k2 m hm
        · rename_i h1
          rw [if_neg h1]
          exact h
/-- It is as said, or it lies too deep. -/
def Or3 {α : Type} (x : PR α) (a : α) (r : List Tk) : Prop := x = .ok a r ∨ ∃ p, x = .bad p 3
theorem or3_then {α β : Type} {x : PR α} {a : α} {r : List Tk} (h : Or3 x a r) {f : α → List Tk → PR β} {b : β} {s : List Tk} (hf : Or3 (f a r) b s) : Or3 (x.then f) b s := by
  rcases h with rfl | ⟨p, rfl⟩
  · exact hf
  · exact .inr ⟨p, rfl⟩
theorem need_more {s : Bs} {ts r : List Tk} {X : List Tk} {u : Unit} (h : need L s ts = .ok u r) : need L' s (ts ++ X) = .ok u (r ++ X) := by
  unfold need at h ⊢
  cases ts with
  | nil => simp [isT] at h
  | cons t q =>
    split at h
    · rename_i hi
      have : isT s (t :: q ++ X) = true := hi
      rw [if_pos this]
      cases h
      rfl
    · cases h
theorem deeper {x : Tk} (hx : (fnd x.tx).2 = false) : ∀ n : Nat, (∀ d ts e r, opnd fnd L n d ts = .ok e r → Or3 (opnd fnd L' n (d + 1) (ts ++ [x])) e (r ++ [x])) ∧ (∀ v d ts e r, binE fnd L n v d ts = .ok e r → Or3 (binE fnd L' n v (d + 1) (ts ++ [x])) e (r ++ [x])) ∧ (∀ v d a ts e r, binL fnd L n v d a ts = .ok e r → Or3 (binL fnd L' n v (d + 1) a (ts ++ [x])) e (r ++ [x])) := by
  intro n
  induction n with
  | zero => exact ⟨fun d ts e r h => by simp [opnd] at h, fun v d ts e r h => by simp [binE] at h, fun v d a ts e r h => by simp [binL] at h⟩
  | succ n ih =>
    obtain ⟨i1, i2, i3⟩ := ih
    refine ⟨fun d ts e r h => ?_, fun v d ts e r h => ?_, fun v d a ts e r h => ?_⟩
    · cases ts with
      | nil => simp [opnd] at h
      | cons t q =>
        rw [List.cons_append]
        simp only [opnd] at h ⊢
        split at h
        · rename_i h1; rw [if_pos h1]; cases h; exact .inl rfl
        rename_i h1; rw [if_neg h1]
        split at h
        · rename_i h2; rw [if_pos h2]; cases h; exact .inl rfl
        rename_i h2; rw [if_neg h2]
        split at h
        · rename_i h3
          rw [if_pos h3]
          split at h
          · cases h
          · by_cases h5 : d + 1 = 64
            · rw [if_pos h5]; exact .inr ⟨_, rfl⟩
            · rw [if_neg h5]
              obtain ⟨y, z, k1, k2⟩ := PR.then_eq_ok h
              cases k2
              exact or3_then (i1 _ _ _ _ k1) (.inl rfl)
        rename_i h3; rw [if_neg h3]
        split at h
        · rename_i h4
          rw [if_pos h4]
          split at h
          · cases h
          · by_cases h5 : d + 1 = 64
            · rw [if_pos h5]; exact .inr ⟨_, rfl⟩
            · rw [if_neg h5]
              obtain ⟨y, z, k1, k2⟩ := PR.then_eq_ok h
              cases k2
              exact or3_then (i1 _ _ _ _ k1) (.inl rfl)
        rename_i h4; rw [if_neg h4]
        split at h
        · rename_i h5
          rw [if_pos h5]
          split at h
          · cases h
          · by_cases h6 : d + 1 = 64
            · rw [if_pos h6]; exact .inr ⟨_, rfl⟩
            · rw [if_neg h6]
              obtain ⟨y, z, k1, k2⟩ := PR.then_eq_ok h
              obtain ⟨y2, z2, k3, k4⟩ := PR.then_eq_ok k2
              cases k4
              exact or3_then (i2 _ _ _ _ _ k1) (or3_then (.inl (need_more k3)) (.inl rfl))
        · cases h
    · simp only [binE] at h ⊢
      obtain ⟨y, z, k1, k2⟩ := PR.then_eq_ok h
      exact or3_then (i1 _ _ _ _ k1) (i3 _ _ _ _ _ _ k2)
    · cases ts with
      | nil =>
        simp only [binL] at h
        cases h
        rw [List.nil_append]
        simp only [binL]
        rw [if_neg (by rw [hx]; simp)]
        exact .inl rfl
      | cons t q =>
        rw [List.cons_append]
        simp only [binL] at h ⊢
        split at h
        · rename_i h1
          rw [if_pos h1]
          obtain ⟨y, z, k1, k2⟩ := PR.then_eq_ok h
          exact or3_then (i2 _ _ _ _ _ k1) (i3 _ _ _ _ _ _ k2)
        · rename_i h1
          rw [if_neg h1]
          cases h
          exact .inl rfl
end
end Go.Proofs.YtgaibdipecngkaaDoor

namespace Go.Proofs.YtgaibdipecngkaaDoor
set_option linter.unusedVariables false
section
variable {fnd : Bs → Int × Bool} {L : Int}
theorem expr_ok : ∀ n : Nat, (∀ d ts e r, opnd fnd L n d ts = .ok e r → okE e) ∧ (∀ v d ts e r, binE fnd L n v d ts = .ok e r → okE e) ∧ (∀ v d a ts e r, okE a → binL fnd L n v d a ts = .ok e r → okE e) := by
  intro n
  induction n with
  | zero => exact ⟨fun d ts e r h => by simp [opnd] at h, fun v d ts e r h => by simp [binE] at h, fun v d a ts e r _ h => by simp [binL] at h⟩
  | succ n ih =>
    obtain ⟨i1, i2, i3⟩ := ih
    refine ⟨fun d ts e r h => ?_, fun v d ts e r h => ?_, fun v d a ts e r ha h => ?_⟩
    · cases ts with
      | nil => simp [opnd] at h
      | cons t q =>
        simp only [opnd] at h
        split at h
        · cases h; exact ⟨by simp, trivial⟩
        split at h
        · cases h; exact ⟨by simp, trivial⟩
        split at h
        · split at h
          · cases h
          · obtain ⟨x, y, k1, k2⟩ := PR.then_eq_ok h
            cases k2
            exact ⟨by simp, i1 _ _ _ _ k1, trivial⟩
        split at h
        · split at h
          · cases h
          · obtain ⟨x, y, k1, k2⟩ := PR.then_eq_ok h
            cases k2
            exact ⟨by simp, i1 _ _ _ _ k1, trivial⟩
        split at h
        · split at h
          · cases h
          · obtain ⟨x, y, k1, k2⟩ := PR.then_eq_ok h
            obtain ⟨x2, y2, k3, k4⟩ := PR.then_eq_ok k2
            cases k4
            exact i2 _ _ _ _ _ k1
        · cases h
    · simp only [binE] at h
      obtain ⟨x, y, k1, k2⟩ := PR.then_eq_ok h
      exact i3 _ _ _ _ _ _ (i1 _ _ _ _ k1) k2
    · cases ts with
      | nil => simp only [binL] at h; cases h; exact ha
      | cons t q =>
        simp only [binL] at h
        split at h
        · obtain ⟨x, y, k1, k2⟩ := PR.then_eq_ok h
          exact i3 _ _ _ _ _ _ (show okE (.mk 4 _ _ _ [a, x] _) from ⟨by simp, ha, i2 _ _ _ _ _ k1, trivial⟩) k2
        · cases h; exact ha
end
theorem endP_ok {α : Type} {x : PR α} {a : α} {r : List Tk} (h : endP x = .ok a r) : x = .ok a [] := by
  unfold endP at h
  obtain ⟨b, s, h1, h2⟩ := PR.then_eq_ok h
  cases s with
  | nil => simp only at h2; cases h2; exact h1
  | cons t q => simp only at h2; cases h2
theorem endR_ok {α : Type} {x : PR α} {a : α} (h : endR x = (some a, 0, 0, 0)) : ∃ r, x = .ok a r := by
  cases x with
  | ok b r => simp only [endR] at h; cases h; exact ⟨r, rfl⟩
  | bad p q => simp only [endR] at h; cases h
theorem said_some {s : ByteArray} {e : Ex} {a b c : Int} (h : said_E s = (some e, a, b, c)) : a = 0 ∧ b = 0 ∧ c = 0 ∧ s.size ≤ 65536 ∧ (restL 0 s.data.toList).2.2 = 0 ∧ binE fnd (s.size : Int) (fuel ((restL 0 s.data.toList).1.map Res.tk)) 1 0 ((restL 0 s.data.toList).1.map Res.tk) = .ok e [] := by
  unfold said_E wholeR at h
  split at h
  · cases h
  · rename_i h1
    split at h
    · cases h
    · rename_i h2
      have hf : (frontR s).2.2 = 0 := by simpa using h2
      rw [scan_toks h1 hf, front_list] at h
      rw [front_list] at hf
      have h : endR (endP (binE fnd (s.size : Int) (fuel ((restL 0 s.data.toList).1.map Res.tk)) 1 0 ((restL 0 s.data.toList).1.map Res.tk))) = (some e, a, b, c) := h
      generalize hZ : endP (binE fnd (s.size : Int) (fuel ((restL 0 s.data.toList).1.map Res.tk)) 1 0 ((restL 0 s.data.toList).1.map Res.tk)) = Z at h
      cases Z with
      | bad p q => simp only [endR] at h; cases h
      | ok x r =>
        simp only [endR] at h
        cases h
        exact ⟨rfl, rfl, rfl, by omega, hf, endP_ok hZ⟩
def roundT (s : ByteArray) : List UInt8 := 40 :: (s.data.toList ++ 10 :: [41])
theorem round_said {s : ByteArray} {e : Ex} (h : said_E s = (some e, 0, 0, 0)) : okE e ∧
    ((said_E ⟨(roundT s).toArray⟩ = (none, 4, 0, 0) ∧ 65536 < s.size + 3) ∨ (∃ p, said_E ⟨(roundT s).toArray⟩ = (none, 30, p, 3)) ∨ ∃ f, said_E ⟨(roundT s).toArray⟩ = (some f, 0, 0, 0) ∧ e.bare = f.bare) := by
  obtain ⟨_, _, _, hsz, hf, hb⟩ := said_some h
  refine ⟨(expr_ok _).2.1 _ _ _ _ _ hb, ?_⟩
  have hlen : (roundT s).length = s.size + 3 := by
    unfold roundT
    have : s.data.toList.length = s.size := by rw [Array.length_toList]; rfl
    simp [this]
  by_cases hbig : 65536 < s.size + 3
  · left
    refine ⟨?_, hbig⟩
    unfold said_E wholeR
    rw [if_pos (by
      have : (⟨(roundT s).toArray⟩ : ByteArray).size = (roundT s).length := by simp [ByteArray.size]
      rw [this, hlen]; exact hbig)]
  · right
    have hcl := goL_clean _ _ _ (show (goL ((s.data.toList.drop (sk false s.data.toList)).length + 1) (0 + sk false s.data.toList) (s.data.toList.drop (sk false s.data.toList))).2.2 = 0 from hf)
    have h0 : restL 0 s.data.toList = ((restL 0 s.data.toList).1, 0, 0) := by
      have a1 : (restL 0 s.data.toList).2.1 = 0 := hcl
      generalize restL 0 s.data.toList = Z at a1 hf ⊢
      obtain ⟨z1, z2, z3⟩ := Z
      simp only at a1 hf
      rw [a1, hf]
    obtain ⟨ys, q, h1, h2⟩ := rest_end [41] _ s.data.toList 0 1 _ (Nat.le_refl _) h0
    rw [rest_close] at h1
    have h3 : restL 0 (roundT s) = (⟨4, ⟨#[40]⟩, 0, 0, 0, 0⟩ :: (ys ++ [⟨4, ⟨#[41]⟩, 0, q, 0, 0⟩]), 0, 0) := by
      unfold roundT
      rw [rest_open, h1]
    have hlike := like_of h2
    have hs := said_list (l := roundT s) (by rw [hlen]; omega) (by rw [h3])
    rw [h3] at hs
    simp only [List.map_cons, List.map_append, List.map_nil] at hs
    rw [hs]
    have hx : exprP fnd (s.size : Int) ((restL 0 s.data.toList).1.map Res.tk) = .ok e [] := by
      unfold exprP endP
      rw [hb]; rfl
    have hsim := sim_exprP (fnd := fnd) (L := (s.size : Int)) (L' := ((roundT s).length : Int)) hlike
    rw [hx] at hsim
    generalize hus : ys.map Res.tk = us at hsim ⊢
    generalize hY : exprP fnd ((roundT s).length : Int) us = Y at hsim
    cases Y with
    | bad p r => exact hsim.elim
    | ok f r =>
      obtain ⟨hbare, hr⟩ := hsim
      have hr : r = [] := by
        have := hr.len
        simpa using this.symm
      subst hr
      have hbf := endP_ok hY
      have hbm := (more_fuel _).2.1 _ _ _ _ _ hbf (3 * us.length + 9) (by unfold fuel; omega)
      have hd := (deeper (L' := ((roundT s).length : Int)) (x := Res.tk ⟨4, ⟨#[41]⟩, 0, q, 0, 0⟩) (by rfl) _).2.1 _ _ _ _ _ hbm
      have hfu : fuel (Res.tk ⟨4, ⟨#[40]⟩, 0, 0, 0, 0⟩ :: (us ++ [Res.tk ⟨4, ⟨#[41]⟩, 0, q, 0, 0⟩])) = 3 * us.length + 9 + 1 + 1 := by
        unfold fuel
        simp only [List.length_cons, List.length_append, List.length_nil]
        omega
      rw [hfu]
      have ho : opnd fnd ((roundT s).length : Int) (3 * us.length + 9 + 1) 0 (Res.tk ⟨4, ⟨#[40]⟩, 0, 0, 0, 0⟩ :: (us ++ [Res.tk ⟨4, ⟨#[41]⟩, 0, q, 0, 0⟩])) = (binE fnd ((roundT s).length : Int) (3 * us.length + 9) 1 (0 + 1) (us ++ [Res.tk ⟨4, ⟨#[41]⟩, 0, q, 0, 0⟩])).then fun e r => (need ((roundT s).length : Int) [41] r).then fun _ r => .ok e r := by
        simp only [opnd]
        rw [if_neg (by decide), if_neg (by decide), if_neg (by decide), if_neg (by decide), if_pos (by decide), if_neg (by decide)]
      have hbE : binE fnd ((roundT s).length : Int) (3 * us.length + 9 + 1 + 1) 1 0 (Res.tk ⟨4, ⟨#[40]⟩, 0, 0, 0, 0⟩ :: (us ++ [Res.tk ⟨4, ⟨#[41]⟩, 0, q, 0, 0⟩])) = (opnd fnd ((roundT s).length : Int) (3 * us.length + 9 + 1) 0 (Res.tk ⟨4, ⟨#[40]⟩, 0, 0, 0, 0⟩ :: (us ++ [Res.tk ⟨4, ⟨#[41]⟩, 0, q, 0, 0⟩]))).then fun e r => binL fnd ((roundT s).length : Int) (3 * us.length + 9 + 1) 1 0 e r := by
        simp only [binE]
      rw [hbE, ho]
      rcases hd with hd | ⟨p, hd⟩
      · right
        refine ⟨f, ?_, hbare⟩
        rw [hd]
        simp only [PR.then_ok, List.nil_append]
        rw [show need ((roundT s).length : Int) [41] [Res.tk ⟨4, ⟨#[41]⟩, 0, q, 0, 0⟩] = .ok () [] from rfl]
        simp only [PR.then_ok, binL]
        rfl
      · left
        refine ⟨p, ?_⟩
        rw [hd]
        rfl
theorem round_empty : said_E ⟨#[40, 10, 41]⟩ = (none, 30, 2, 2) := by
  have h := said_list (l := [40, 10, 41]) (by decide) (by kernel_rfl)
  rw [show (⟨#[40, 10, 41]⟩ : ByteArray) = ⟨[40, 10, 41].toArray⟩ from rfl, h]
  have key : endR (endP (binE fnd (3 : Int) (fuel ((restL 0 [40, 10, 41]).1.map Res.tk)) 1 0 ((restL 0 [40, 10, 41]).1.map Res.tk))) = (none, 30, 2, 2) := by kernel_rfl
  exact key
theorem bare_same : ∀ (e f : Ex), e.bare = f.bare → sameE e f = true := by
  intro e
  induction e using Ex.ind with
  | h k o wd nm ks ps ih =>
    intro f hf
    obtain ⟨k', o', wd', nm', ks', ps'⟩ := f
    simp only [Ex.bare, Ex.mk.injEq] at hf
    obtain ⟨rfl, rfl, rfl, rfl, hk, _⟩ := hf
    simp only [sameE, beq_self_eq_true, Bool.true_and]
    clear ps ps'
    induction ks generalizing ks' with
    | nil =>
      cases ks' with
      | nil => rfl
      | cons y s => simp [exsBare] at hk
    | cons x r ihr =>
      cases ks' with
      | nil => simp [exsBare] at hk
      | cons y s =>
        simp only [exsBare, List.cons.injEq] at hk
        simp only [sameEs, Bool.and_eq_true]
        exact ⟨ih x (.head _) y hk.1, ihr (fun z hz => ih z (.tail _ hz)) s hk.2⟩
end Go.Proofs.YtgaibdipecngkaaDoor

namespace Go.Proofs.YtgaibdipecngkaaDoor
open Go.RowKit
set_option linter.unusedVariables false
theorem sameE_self (e : Ex) : sameE e e = true := bare_same e e rfl
theorem okE_zero : okE zE := ⟨Nat.zero_le _, trivial⟩
/-- The tree that is said; a zero one, if none is. -/
theorem said_tree {s : ByteArray} {R : Option Ex × Int × Int × Int} (hR : said_E s = R) : okE (R.1.getD zE) := by
  obtain ⟨r1, a, b, c⟩ := R
  cases r1 with
  | none => exact okE_zero
  | some e =>
    obtain ⟨_, _, _, _, _, h⟩ := said_some hR
    exact (expr_ok _).2.1 _ _ _ _ _ h
theorem wh_tree {w w' : World} {R : Option Ex × Int × Int × Int} {e : Ending} (h : WhPost w zEx exR R e w') : Below w.heap.size w w' ∧ ∃ a cap, e = .returned (.tuple #[.agg #[.int .u8 (R.1.getD zE).kind, .int .u8 (R.1.getD zE).op, .int .i64 (R.1.getD zE).wd, .string (R.1.getD zE).name, .slice a (R.1.getD zE).kids.length cap, .int .i64 (R.1.getD zE).pos], .int .i64 R.2.1, .agg #[.int .i64 R.2.2.1, .int .i64 R.2.2.2]]) ∧ exsAt (fun _ => True) w' (R.1.getD zE).kids a := by
  obtain ⟨r1, p, q, r⟩ := R
  obtain ⟨hb, v, he, hv⟩ := h
  cases r1 with
  | none =>
    obtain rfl : v = .agg zEx := hv
    exact ⟨hb, none, 0, he, .inl rfl⟩
  | some x =>
    obtain ⟨a, cap, rfl, hx⟩ : exR w.heap.size x v w' := hv
    exact ⟨hb, a, cap, he, exsAt_mono hx (fun _ _ => trivial)⟩
set_option maxRecDepth 100000 in
set_option maxHeartbeats 4000000 in
theorem exprs_walk (s : ByteArray) {w : World} (TT : LTabs w ∧ Tabs w) : Calls Tryd.prog 3 #[.string s] w fun e w' => e = .returned (.bool true) ∧ Below w.heap.size w w' := by
  obtain ⟨R, hR⟩ : ∃ R, R = said_E s := ⟨_, rfl⟩
  have hok := said_tree hR.symm
  have HP : Hid (∀ W, LTabs W → Tabs W → Calls Tryd.prog 4 #[.string s] W fun e w' => Below W.heap.size W w' ∧ ∃ a cap, e = .returned (.tuple #[.agg #[.int .u8 (R.1.getD zE).kind, .int .u8 (R.1.getD zE).op, .int .i64 (R.1.getD zE).wd, .string (R.1.getD zE).name, .slice a (R.1.getD zE).kids.length cap, .int .i64 (R.1.getD zE).pos], .int .i64 R.2.1, .agg #[.int .i64 R.2.2.1, .int .i64 R.2.2.2]]) ∧ exsAt (fun _ => True) w' (R.1.getD zE).kids a) := fun W T TW => (p_Expr s T TW).mono fun e w' h => by rw [← hR] at h; exact wh_tree h
  have HQ : Hid (∀ W, Calls Tryd.prog 5 #[.string s] W fun e w' => Below W.heap.size W w' ∧ ∃ a cap, e = .returned (.tuple #[.agg #[.int .u8 (R.1.getD zE).kind, .int .u8 (R.1.getD zE).op, .int .i64 (R.1.getD zE).wd, .string (R.1.getD zE).name, .slice a (R.1.getD zE).kids.length cap, .int .i64 (R.1.getD zE).pos], .int .i64 R.2.1, .agg #[.int .i64 R.2.2.1, .int .i64 R.2.2.2]]) ∧ exsAt (fun _ => True) w' (R.1.getD zE).kids a) := fun W => (p_rExpr s W).mono fun e w' h => by rw [← hR] at h; exact wh_tree h
  clear hR
  obtain ⟨r1, y, p, q⟩ := R
  simp only at HP HQ hok
  generalize r1.getD zE = x at HP HQ hok
  obtain ⟨k, o, wd, nm, ks, ps⟩ := x
  simp only [Ex.kind, Ex.op, Ex.wd, Ex.name, Ex.kids, Ex.pos] at HP HQ
  have HOK := Lib.hid hok
  have HT := Lib.hid TT
  have hyy : (y == y) = true := by simp
  have hpp : (p == p) = true := by simp
  have hqq : (q == q) = true := by simp
  have HSM : Hid (∀ W a1 c1 a2 c2, exsAt (fun _ => True) W ks a1 → exsAt (fun _ => True) W ks a2 → Calls Tryd.prog 7 #[.agg #[.int .u8 k, .int .u8 o, .int .i64 wd, .string nm, .slice a1 ks.length c1, .int .i64 ps], .agg #[.int .u8 k, .int .u8 o, .int .i64 wd, .string nm, .slice a2 ks.length c2, .int .i64 ps]] W fun e w' => e = .returned (.bool true) ∧ Below W.heap.size W w') := fun W a1 c1 a2 c2 h1 h2 => by
    have := r_same (.mk k o wd nm ks ps) hok (.mk k o wd nm ks ps) _ _ W ⟨a1, c1, rfl, h1⟩ ⟨a2, c2, rfl, h2⟩
    rw [sameE_self] at this
    exact this
  have HPL : Hid (∀ W g1 g2, exsAt (fun _ => True) W [.mk k o wd nm ks ps] (some ⟨g1, 0, none⟩) → exsAt (fun _ => True) W [.mk k o wd nm ks ps] (some ⟨g2, 0, none⟩) → Calls Tryd.prog 8 #[.slice (some ⟨g1, 0, none⟩) 1 1, .slice (some ⟨g2, 0, none⟩) 1 1] W fun e w' => e = .returned (.bool true) ∧ ∃ j, w' = W.drewN j) := fun W g1 g2 h1 h2 => by
    have := r_places [.mk k o wd nm ks ps] ⟨hok, trivial⟩ [.mk k o wd nm ks ps] _ _ 1 1 W (by show 1 ≤ 65536; decide) h1 h2
    rw [placeEs_self] at this
    exact this
  have HLV : Hid (∀ W, LTabs W ∧ Tabs W → Calls Tryd.prog 6 #[] W fun e w' => e = .returned (.bool true) ∧ Below W.heap.size W w') := fun W T => p_lives T.1 T.2
  clear TT hok
  go_enter Tryd.func3, Tryd.ntmps3
  go_wp2_with fail
  go_at_call 4
  refine (HP.out _ HT.out.1 HT.out.2).mono ?_
  rintro e w1 ⟨hb1, a1, c1, rfl, hx1⟩
  have Z1 := (Own.new w1 26 #[.int .u8 0, .int .u8 0, .int .i64 0, .string ⟨#[]⟩, .slice none 0 0, .int .i64 0]).alloc (.cells #[.int .i64 0, .int .i64 0] 29)
  have Z2 := Own.new (w1.alloc (.cells #[.int .u8 0, .int .u8 0, .int .i64 0, .string ⟨#[]⟩, .slice none 0 0, .int .i64 0] 26)) 29 #[.int .i64 0, .int .i64 0]
  rw [World.size_alloc] at Z2
  have Z2' := Z2.other (g := w1.heap.size) #[.int .u8 k, .int .u8 o, .int .i64 wd, .string nm, .slice a1 ks.length c1, .int .i64 ps] (by omega)
  have P1 := Lib.hid ((Z1.row #[.int .u8 k, .int .u8 o, .int .i64 wd, .string nm, .slice a1 ks.length c1, .int .i64 ps]).other (g := w1.heap.size + 1) #[.int .i64 p, .int .i64 q] (by omega))
  have F1 := Lib.hid (Z2'.row #[.int .i64 p, .int .i64 q])
  have B1 := Lib.hid (Below.of_row (Below.of_row (((Below.refl w1.heap.size w1).alloc (Nat.le_refl _) (.cells #[.int .u8 0, .int .u8 0, .int .i64 0, .string ⟨#[]⟩, .slice none 0 0, .int .i64 0] 26)).alloc (by rw [World.size_alloc]; omega) (.cells #[.int .i64 0, .int .i64 0] 29)) (g := w1.heap.size) (Nat.le_refl _) #[.int .u8 k, .int .u8 o, .int .i64 wd, .string nm, .slice a1 ks.length c1, .int .i64 ps]) (g := w1.heap.size + 1) (by omega) #[.int .i64 p, .int .i64 q])
  have HX1 := Lib.hid (exsAt_below hx1 B1.out)
  have HB1 := Lib.hid hb1
  clear hb1 hx1 Z2
  go_upto_region 2 with (first | (refine st rowEx rfl rfl Z1 rfl rfl (by rfl) (by rfl) (by kernel_rfl) ?_) | (refine st rowFl rfl rfl Z2' rfl rfl (by rfl) (by rfl) (by kernel_rfl) ?_))
  obtain ⟨W2, hW2⟩ : ∃ W, W = ((((w1.alloc (.cells #[.int .u8 0, .int .u8 0, .int .i64 0, .string ⟨#[]⟩, .slice none 0 0, .int .i64 0] 26)).alloc (.cells #[.int .i64 0, .int .i64 0] 29)).setRow w1.heap.size #[.int .u8 k, .int .u8 o, .int .i64 wd, .string nm, .slice a1 ks.length c1, .int .i64 ps]).setRow (w1.heap.size + 1) #[.int .i64 p, .int .i64 q]) := ⟨_, rfl⟩
  rw [← hW2] at P1 F1 B1 HX1 ⊢
  clear hW2 Z1 Z2'
  have T2 : Hid (LTabs W2 ∧ Tabs W2) := ⟨(HT.out.1.below (Nat.le_refl _) HB1.out).below (Nat.le_refl _) B1.out, (HT.out.2.below (Nat.le_refl _) HB1.out).below (Nat.le_refl _) B1.out⟩
  have B2 := Lib.hid (HB1.out.trans (B1.out.mono HB1.out.size))
  go_wp2_with fail
  go_at_call 5
  refine (HQ.out _).mono ?_
  rintro e w3 ⟨hb3, a2, c2, rfl, hx2⟩
  have P1 := P1.out.below hb3
  have F1 := F1.out.below hb3
  have l1 := P1.lt
  have l2 := F1.lt
  have Y1 := (Own.new w3 26 #[.int .u8 0, .int .u8 0, .int .i64 0, .string ⟨#[]⟩, .slice none 0 0, .int .i64 0]).alloc (.cells #[.int .i64 0, .int .i64 0] 29)
  have Y2 := Own.new (w3.alloc (.cells #[.int .u8 0, .int .u8 0, .int .i64 0, .string ⟨#[]⟩, .slice none 0 0, .int .i64 0] 26)) 29 #[.int .i64 0, .int .i64 0]
  rw [World.size_alloc] at Y2
  have Y2' := Y2.other (g := w3.heap.size) #[.int .u8 k, .int .u8 o, .int .i64 wd, .string nm, .slice a2 ks.length c2, .int .i64 ps] (by omega)
  have P2 := Lib.hid ((Y1.row #[.int .u8 k, .int .u8 o, .int .i64 wd, .string nm, .slice a2 ks.length c2, .int .i64 ps]).other (g := w3.heap.size + 1) #[.int .i64 p, .int .i64 q] (by omega))
  have F2 := Lib.hid (Y2'.row #[.int .i64 p, .int .i64 q])
  have B3 := Lib.hid (Below.of_row (Below.of_row (((Below.refl w3.heap.size w3).alloc (Nat.le_refl _) (.cells #[.int .u8 0, .int .u8 0, .int .i64 0, .string ⟨#[]⟩, .slice none 0 0, .int .i64 0] 26)).alloc (by rw [World.size_alloc]; omega) (.cells #[.int .i64 0, .int .i64 0] 29)) (g := w3.heap.size) (Nat.le_refl _) #[.int .u8 k, .int .u8 o, .int .i64 wd, .string nm, .slice a2 ks.length c2, .int .i64 ps]) (g := w3.heap.size + 1) (by omega) #[.int .i64 p, .int .i64 q])
  have P1 := Lib.hid (P1.below B3.out)
  have F1 := Lib.hid (F1.below B3.out)
  have HX2 := Lib.hid (exsAt_below hx2 B3.out)
  have HX1 := Lib.hid (exsAt_below (exsAt_below HX1.out hb3) B3.out)
  have T4 : Hid (LTabs _ ∧ Tabs _) := ⟨(T2.out.1.below (Nat.le_refl _) hb3).below (Nat.le_refl _) B3.out, (T2.out.2.below (Nat.le_refl _) hb3).below (Nat.le_refl _) B3.out⟩
  have B4 := Lib.hid (B2.out.trans ((hb3.trans (B3.out.mono hb3.size)).mono B2.out.size))
  clear hb3 hx2 Y2 l1 l2
  go_upto_region 3 with (first | (refine st rowEx rfl rfl Y1 rfl rfl (by rfl) (by rfl) (by kernel_rfl) ?_) | (refine st rowFl rfl rfl Y2' rfl rfl (by rfl) (by rfl) (by kernel_rfl) ?_))
  obtain ⟨W4, hW4⟩ : ∃ W, W = ((((w3.alloc (.cells #[.int .u8 0, .int .u8 0, .int .i64 0, .string ⟨#[]⟩, .slice none 0 0, .int .i64 0] 26)).alloc (.cells #[.int .i64 0, .int .i64 0] 29)).setRow w3.heap.size #[.int .u8 k, .int .u8 o, .int .i64 wd, .string nm, .slice a2 ks.length c2, .int .i64 ps]).setRow (w3.heap.size + 1) #[.int .i64 p, .int .i64 q]) := ⟨_, rfl⟩
  rw [← hW4] at P1 F1 P2 F2 B4 HX1 HX2 T4 ⊢
  clear hW4 Y1 Y2'
  go_wp2_with fail
  go_at_call 6
  refine (HLV.out _ T4.out).mono ?_
  rintro e w5 ⟨rfl, hb⟩
  have P1 := Lib.hid (P1.out.below hb)
  have F1 := Lib.hid (F1.out.below hb)
  have P2 := Lib.hid (P2.out.below hb)
  have F2 := Lib.hid (F2.out.below hb)
  have HX1 := Lib.hid (exsAt_below HX1.out hb)
  have HX2 := Lib.hid (exsAt_below HX2.out hb)
  have B5 := Lib.hid (B4.out.trans (hb.mono B4.out.size))
  obtain ⟨⟨c0, c1', c2', c3, c4, c5⟩, _⟩ := row6 P1.out
  obtain ⟨⟨d0, d1, d2, d3, d4, d5⟩, _⟩ := row6 P2.out
  clear hb
  go_wp2_with fail
  go_at_call 7
  refine (HSM.out _ _ _ _ _ HX1.out HX2.out).mono ?_
  rintro e w6 ⟨rfl, hb⟩
  have P1 := Lib.hid (P1.out.below hb)
  have F1 := Lib.hid (F1.out.below hb)
  have P2 := Lib.hid (P2.out.below hb)
  have F2 := Lib.hid (F2.out.below hb)
  have HX1 := Lib.hid (exsAt_below HX1.out hb)
  have HX2 := Lib.hid (exsAt_below HX2.out hb)
  have B6 := Lib.hid (B5.out.trans (hb.mono B5.out.size))
  clear c0 c1' c2' c3 c4 c5 d0 d1 d2 d3 d4 d5
  obtain ⟨⟨c0, c1', c2', c3, c4, c5⟩, _⟩ := row6 P1.out
  obtain ⟨⟨d0, d1, d2, d3, d4, d5⟩, _⟩ := row6 P2.out
  have lp1 := P1.out.lt
  have lp2 := P2.out.lt
  have N1 := Own.new w6 26 #[.int .u8 k, .int .u8 o, .int .i64 wd, .string nm, .slice a1 ks.length c1, .int .i64 ps]
  have N2 := Own.new (w6.alloc (.cells #[.int .u8 k, .int .u8 o, .int .i64 wd, .string nm, .slice a1 ks.length c1, .int .i64 ps] 26)) 26 #[.int .u8 k, .int .u8 o, .int .i64 wd, .string nm, .slice a2 ks.length c2, .int .i64 ps]
  rw [World.size_alloc] at N2
  have N1 := N1.alloc (.cells #[.int .u8 k, .int .u8 o, .int .i64 wd, .string nm, .slice a2 ks.length c2, .int .i64 ps] 26)
  have B7 := Lib.hid (((Below.refl w6.heap.size w6).alloc (Nat.le_refl _) (.cells #[.int .u8 k, .int .u8 o, .int .i64 wd, .string nm, .slice a1 ks.length c1, .int .i64 ps] 26)).alloc (by rw [World.size_alloc]; omega) (.cells #[.int .u8 k, .int .u8 o, .int .i64 wd, .string nm, .slice a2 ks.length c2, .int .i64 ps] 26))
  have L1 : Hid (exsAt (fun _ => True) _ [.mk k o wd nm ks ps] (some ⟨w6.heap.size, 0, none⟩)) := .inr ⟨_, 0, rfl, trivial, exIn_of (vs := exCells (.mk k o wd nm ks ps) a1 c1) ⟨a1, c1, rfl, exsAt_below HX1.out B7.out⟩ (fun j v hj => by rw [Nat.zero_add, cell_of_row _ _ j _ _ _ N1, ← hj]; simp [exCells, Ex.kind, Ex.op, Ex.wd, Ex.name, Ex.kids, Ex.pos]), trivial⟩
  have L2 : Hid (exsAt (fun _ => True) _ [.mk k o wd nm ks ps] (some ⟨w6.heap.size + 1, 0, none⟩)) := .inr ⟨_, 0, rfl, trivial, exIn_of (vs := exCells (.mk k o wd nm ks ps) a2 c2) ⟨a2, c2, rfl, exsAt_below HX2.out B7.out⟩ (fun j v hj => by rw [Nat.zero_add, cell_of_row _ _ j _ _ _ N2, ← hj]; simp [exCells, Ex.kind, Ex.op, Ex.wd, Ex.name, Ex.kids, Ex.pos]), trivial⟩
  clear hb N1 N2
  go_wp2_with fail
  go_at_call 8
  refine (HPL.out _ _ _ L1.out L2.out).mono ?_
  rintro e w7 ⟨rfl, j, hw7⟩
  have f1 : Own w7 (w1.heap.size + 1) 29 #[.int .i64 p, .int .i64 q] := by rw [hw7]; exact (F1.out.below B7.out).drewN j
  have f2 : Own w7 (w3.heap.size + 1) 29 #[.int .i64 p, .int .i64 q] := by rw [hw7]; exact (F2.out.below B7.out).drewN j
  have B8 : Hid (Below w.heap.size w w7) := by rw [hw7]; exact below_drewN (B6.out.trans (B7.out.mono B6.out.size)) j
  obtain ⟨⟨g0, g1⟩, _⟩ := row2 f1
  obtain ⟨⟨h0, h1⟩, _⟩ := row2 f2
  clear hw7 f1 f2 c0 c1' c2' c3 c4 c5 d0 d1 d2 d3 d4 d5 lp1 lp2
  go_wp2_with fail
  go_ret
  exact ⟨rfl, B8.out⟩
end Go.Proofs.YtgaibdipecngkaaDoor

namespace Go.Proofs.YtgaibdipecngkaaDoor
open Go.ChangeShapes Go.WideShapes Go.ChangeAt Go.WideMaps Go.WideElems Go.RowKit
set_option linter.unusedVariables false
abbrev PL : List (String × DataW Unit) := [("stile/words.levels", Rows.laid_stile_words_levels), ("stile/words.signs", Rows.laid_stile_words_signs), ("stile/lexer.languageWords", Rows.laid_stile_lexer_languageWords), ("stile/lexer.longSigns", Rows.laid_stile_lexer_longSigns)]
theorem both_of_laid {W : World} (h : laidMetH Tryd.prog PL W) : LTabs W ∧ Tabs W := by
  rw [MakeChecks.laidMetH_plain _ _ _ (by kernel_rfl)] at h
  obtain ⟨ps, h, _⟩ := h
  exact ⟨ltabs_of_vars h (by simp) (by simp), tabs_of_vars h (by simp) (by simp)⟩
theorem pdoor_met (os : Os) (args : Array Value) : laidMetH Tryd.prog PL ((World.doorLaid Tryd.prog 400 os).forCall (fun _ _ => 0) ⟨#[], args, []⟩).memory :=
  laidMetH_of_parts3 (fuel := 8) (laidMet_of_run' 8 (by kernel_rfl) (by kernel_rfl)) (by kernel_rfl) (by kernel_rfl)
theorem i64_bd {x : Int} (h : (Lit.int .i64 x).wf = true) : -9223372036854775808 ≤ x ∧ x ≤ 9223372036854775807 := by
  simp [Lit.wf, IntKind.min, IntKind.max, IntKind.signed, IntKind.bits] at h; omega
theorem u8_bd {x : Int} (h : (Lit.int .u8 x).wf = true) : 0 ≤ x ∧ x ≤ 255 := by
  simp [Lit.wf, IntKind.min, IntKind.max, IntKind.signed, IntKind.bits] at h; omega
end Go.Proofs.YtgaibdipecngkaaDoor

/- An instruction begun by its word. -/
import Derived.Test.YtgmcfinjlddgbaaGreatDoorTr2
namespace Go.Proofs.YtgmcfinjlddgbaaGreatDoor
open Go.RowKit
set_option linter.unusedVariables false
set_option maxRecDepth 100000
theorem results_cell_tmp {P : Program} {fn : Func} {p t : Tmp} {ty : TypeId} (h : fn.results = #[.cell p ty, .tmp t]) (tmps : Array Value) (w : World) (g : Nat) (t0 : TypeId) (cs : Array Value) (fr : Nat × Nat) (d : TypeDesc)
    (hp : tmps.getD p undef = .pointer (some ⟨g, 0, none⟩)) (hg : w.heap[g]? = some (.cells cs t0 fr))
    (hu : P.underlying ty = some d) (hd : (match d with | .struct _ | .array _ _ => true | _ => false) = true) (hi : (P.info? ty).map (·.size) = some cs.size) :
    (results fn tmps).run P w = .ok (.tuple #[.agg cs, tmps.getD t undef]) w := by
  have hp' : tmps[p]?.getD undef = .pointer (some ⟨g, 0, none⟩) := by simpa using hp
  simp [results, h, hp', asAddr, run_loadVar_row w g t0 ty cs fr d hg hu hd hi]
theorem p_ret2 {T : TypeId} {n : Nat} (hT : RowT T n) {fn : Func} {p t : Tmp} {R : Ending → World → Prop} (hr : fn.results = #[.cell p T, .tmp t]) {a : Act} {w : World} {g : Nat} {cs : Array Value} (hg : Own w g T cs) (hp : a.tmps.getD p undef = .pointer (some ⟨g, 0, none⟩)) (hd : a.defers = []) (hn : cs.size = n) {v : Value} (hv : a.tmps.getD t undef = v)
    (h : R (.returned (.tuple #[.agg cs, v])) w) : bodyPost Tryz.prog fn R .ret a w := by
  obtain ⟨d, h1, h2, h3⟩ := hT
  subst hv
  exact bodyPost_ret (results_cell_tmp hr _ _ g T cs (0, 0) d hp hg h1 (by cases d <;> first | rfl | cases h2) (by rw [h3, hn])) hd h
/-- The first of a list that is this text. -/
def fndF (L : List (List UInt8)) (s : List UInt8) : Nat → Nat → Option Nat
  | 0, _ => none
  | f + 1, j => if L.getD j [] = s then some j else fndF L s f (j + 1)
def insK (k o : Int) : Ins := ⟨k, o, 0, 0, 0, 0, 0, 0, 0⟩
def begS (s : List UInt8) : Ins × Bool := if s = [] then (insK 0 0, false) else match fndF formTx s 11 0 with
  | some k => (insK k 0, true)
  | none => match fndF opTx s 19 0 with
    | some o => (insK 2 o, true)
    | none => (insK 0 0, false)
def begE (r : Ins × Bool) : Ending := .returned (.tuple #[insV r.1, .bool r.2])
theorem fnd_lt {L : List (List UInt8)} {s : List UInt8} : ∀ {f j k : Nat}, fndF L s f j = some k → k < j + f
  | 0, j, k, h => by cases h
  | f + 1, j, k, h => by
    unfold fndF at h
    split at h
    · injection h with h; omega
    · have := fnd_lt h; omega
theorem eq_text {l : List UInt8} {s : ByteArray} (h : l = s.data.toList) : ((⟨l.toArray⟩ : ByteArray).toList == s.toList) = true := bytes_eqT (by subst h; rfl)
theorem ne_text {l : List UInt8} {s : ByteArray} (h : l ≠ s.data.toList) : ((⟨l.toArray⟩ : ByteArray).toList == s.toList) = false := bytes_eqF fun e => h (by rw [← e])
section
variable {P : Program}
theorem run_loadVar_cells (w : World) (g : Nat) (ty : TypeId) (cs : Array Value) (d : TypeDesc) (hc : ∀ (j : Nat) (v : Value), cs[j]? = some v → w.cell? ⟨g, j, none⟩ = some v)
    (hu : P.underlying ty = some d) (hd : (match d with | .struct _ | .array _ _ => true | _ => false) = true) (hi : (P.info? ty).map (·.size) = some cs.size) :
    (loadVar ty ⟨g, 0, none⟩).run P w = .ok (.agg cs) w := by
  have hl : (loadCells ⟨g, 0, none⟩ cs.toList.length).run P w = .ok cs.toList.toArray w :=
    run_loadCells_list (P := P) w ⟨g, 0, none⟩ cs.toList (fun j v hv => by
      have hadd : (⟨g, 0, none⟩ : Addr).add j = ⟨g, j, none⟩ := by unfold Addr.add; split <;> simp_all
      rw [hadd]
      exact hc j v (by simpa using hv))
  cases hq : P.info? ty with
  | none => simp [hq] at hi
  | some i =>
    have hs : i.size = cs.size := by simpa [hq] using hi
    have hagg : (isAgg ty).run P w = .ok true w := by
      unfold isAgg
      rw [Sem.run_bind, run_underlying hu w]
      cases d <;> simp_all
    simp only [Array.length_toList, Array.toArray_toList] at hl
    simp [loadVar, Sem.run_bind, hagg, sizeOf, typeInfo, hq, hs, hl]
theorem ldc {ops : Array Oper} {rest : List Oper} {o : Oper} {a : Act} {w : World} {Q : Exit → Act → World → Prop} {T : TypeId} {n : Nat} (hT : RowT T n) (hgd : o.guard = none) {x : Operand} (ho : o.op = .load T x) {g : Nat} (hx : a.eval x = .pointer (some ⟨g, 0, none⟩)) {cs : Array Value} (hc : ∀ (j : Nat) (v : Value), cs[j]? = some v → w.cell? ⟨g, j, none⟩ = some v) (hn : cs.size = n)
    (h : wpList Tryz.prog ops Q rest (a.put o.dst (.agg cs)) w) : wpList Tryz.prog ops Q (o :: rest) a w := by
  obtain ⟨d, h1, h2, h3⟩ := hT
  refine wpList_plain hgd fun _ hK => ?_
  have hr := run_loadVar_cells (P := Tryz.prog) w g T cs d hc h1 (by cases d <;> first | rfl | cases h2) (by rw [h3, hn])
  unfold Oper.wp execOp
  simp only [ho, hx, Instr.loadAt, Instr.sureAddr, Sem.run_bind, Sem.run_pure, Result.andThen_ok, hr]
  exact hK _ _ h
end
theorem rowF : RowT 118 22 := ⟨_, Tryz.underlying118, rfl, by kernel_rfl⟩
theorem rowW : RowT 152 19 := ⟨_, Tryz.underlying152, rfl, by kernel_rfl⟩
theorem rowFm : RowT 117 2 := ⟨_, Tryz.underlying117, rfl, by kernel_rfl⟩
theorem form_cells {W : World} (T : TgT W) (j : Nat) (v : Value) (h : (#[.string ⟨#[]⟩, .int .u64 0, .string ⟨#[115, 101, 116]⟩, .int .u64 66, .string ⟨#[]⟩, .int .u64 15, .string ⟨#[108, 111, 97, 100]⟩, .int .u64 18, .string ⟨#[115, 116, 111, 114, 101]⟩, .int .u64 20, .string ⟨#[115, 119, 97, 112]⟩, .int .u64 18, .string ⟨#[102, 101, 110, 99, 101]⟩, .int .u64 0, .string ⟨#[112, 114, 105, 110, 116]⟩, .int .u64 4, .string ⟨#[106, 117, 109, 112]⟩, .int .u64 32, .string ⟨#[122, 101, 114, 111]⟩, .int .u64 36, .string ⟨#[104, 97, 108, 116]⟩, .int .u64 0] : Array Value)[j]? = some v) : W.cell? ⟨0, j, none⟩ = some v := by
  match j, h with
  | 0, h => cases h; exact T.fw 0 (by decide)
  | 1, h => cases h; exact T.fu 0 (by decide)
  | 2, h => cases h; exact T.fw 1 (by decide)
  | 3, h => cases h; exact T.fu 1 (by decide)
  | 4, h => cases h; exact T.fw 2 (by decide)
  | 5, h => cases h; exact T.fu 2 (by decide)
  | 6, h => cases h; exact T.fw 3 (by decide)
  | 7, h => cases h; exact T.fu 3 (by decide)
  | 8, h => cases h; exact T.fw 4 (by decide)
  | 9, h => cases h; exact T.fu 4 (by decide)
  | 10, h => cases h; exact T.fw 5 (by decide)
  | 11, h => cases h; exact T.fu 5 (by decide)
  | 12, h => cases h; exact T.fw 6 (by decide)
  | 13, h => cases h; exact T.fu 6 (by decide)
  | 14, h => cases h; exact T.fw 7 (by decide)
  | 15, h => cases h; exact T.fu 7 (by decide)
  | 16, h => cases h; exact T.fw 8 (by decide)
  | 17, h => cases h; exact T.fu 8 (by decide)
  | 18, h => cases h; exact T.fw 9 (by decide)
  | 19, h => cases h; exact T.fu 9 (by decide)
  | 20, h => cases h; exact T.fw 10 (by decide)
  | 21, h => cases h; exact T.fu 10 (by decide)
  | j + 22, h => simp at h
theorem op_cells {W : World} (T : TgT W) (j : Nat) (v : Value) (h : (#[.string ⟨#[]⟩, .string ⟨#[97, 100, 100]⟩, .string ⟨#[115, 117, 98]⟩, .string ⟨#[109, 117, 108]⟩, .string ⟨#[100, 105, 118]⟩, .string ⟨#[114, 101, 109]⟩, .string ⟨#[97, 110, 100]⟩, .string ⟨#[111, 114]⟩, .string ⟨#[120, 111, 114]⟩, .string ⟨#[115, 104, 108]⟩, .string ⟨#[115, 104, 114]⟩, .string ⟨#[105, 115]⟩, .string ⟨#[105, 115, 110, 111, 116]⟩, .string ⟨#[108, 101, 115, 115]⟩, .string ⟨#[109, 111, 115, 116]⟩, .string ⟨#[97, 98, 111, 118, 101]⟩, .string ⟨#[108, 101, 97, 115, 116]⟩, .string ⟨#[109, 105, 110, 117, 115]⟩, .string ⟨#[110, 111, 116]⟩] : Array Value)[j]? = some v) : W.cell? ⟨1, j, none⟩ = some v := by
  match j, h with
  | 0, h => cases h; exact T.ow 0 (by decide)
  | 1, h => cases h; exact T.ow 1 (by decide)
  | 2, h => cases h; exact T.ow 2 (by decide)
  | 3, h => cases h; exact T.ow 3 (by decide)
  | 4, h => cases h; exact T.ow 4 (by decide)
  | 5, h => cases h; exact T.ow 5 (by decide)
  | 6, h => cases h; exact T.ow 6 (by decide)
  | 7, h => cases h; exact T.ow 7 (by decide)
  | 8, h => cases h; exact T.ow 8 (by decide)
  | 9, h => cases h; exact T.ow 9 (by decide)
  | 10, h => cases h; exact T.ow 10 (by decide)
  | 11, h => cases h; exact T.ow 11 (by decide)
  | 12, h => cases h; exact T.ow 12 (by decide)
  | 13, h => cases h; exact T.ow 13 (by decide)
  | 14, h => cases h; exact T.ow 14 (by decide)
  | 15, h => cases h; exact T.ow 15 (by decide)
  | 16, h => cases h; exact T.ow 16 (by decide)
  | 17, h => cases h; exact T.ow 17 (by decide)
  | 18, h => cases h; exact T.ow 18 (by decide)
  | j + 19, h => simp at h
theorem idx_form (X : World) (j : Nat) (hj : j < 11) : (Instr.index 118 (.agg #[.string ⟨#[]⟩, .int .u64 0, .string ⟨#[115, 101, 116]⟩, .int .u64 66, .string ⟨#[]⟩, .int .u64 15, .string ⟨#[108, 111, 97, 100]⟩, .int .u64 18, .string ⟨#[115, 116, 111, 114, 101]⟩, .int .u64 20, .string ⟨#[115, 119, 97, 112]⟩, .int .u64 18, .string ⟨#[102, 101, 110, 99, 101]⟩, .int .u64 0, .string ⟨#[112, 114, 105, 110, 116]⟩, .int .u64 4, .string ⟨#[106, 117, 109, 112]⟩, .int .u64 32, .string ⟨#[122, 101, 114, 111]⟩, .int .u64 36, .string ⟨#[104, 97, 108, 116]⟩, .int .u64 0]) (.int .i64 (j : Int))).run Tryz.prog X = .ok (.agg #[.string ⟨(formTx.getD j []).toArray⟩, .int .u64 (formU j)]) X := by
  match j, hj with
  | 0, _ => rfl
  | 1, _ => rfl
  | 2, _ => rfl
  | 3, _ => rfl
  | 4, _ => rfl
  | 5, _ => rfl
  | 6, _ => rfl
  | 7, _ => rfl
  | 8, _ => rfl
  | 9, _ => rfl
  | 10, _ => rfl
  | j + 11, h => omega
theorem idx_op (X : World) (j : Nat) (hj : j < 19) : (Instr.index 152 (.agg #[.string ⟨#[]⟩, .string ⟨#[97, 100, 100]⟩, .string ⟨#[115, 117, 98]⟩, .string ⟨#[109, 117, 108]⟩, .string ⟨#[100, 105, 118]⟩, .string ⟨#[114, 101, 109]⟩, .string ⟨#[97, 110, 100]⟩, .string ⟨#[111, 114]⟩, .string ⟨#[120, 111, 114]⟩, .string ⟨#[115, 104, 108]⟩, .string ⟨#[115, 104, 114]⟩, .string ⟨#[105, 115]⟩, .string ⟨#[105, 115, 110, 111, 116]⟩, .string ⟨#[108, 101, 115, 115]⟩, .string ⟨#[109, 111, 115, 116]⟩, .string ⟨#[97, 98, 111, 118, 101]⟩, .string ⟨#[108, 101, 97, 115, 116]⟩, .string ⟨#[109, 105, 110, 117, 115]⟩, .string ⟨#[110, 111, 116]⟩]) (.int .i64 (j : Int))).run Tryz.prog X = .ok (.string ⟨(opTx.getD j []).toArray⟩) X := by
  match j, hj with
  | 0, _ => rfl
  | 1, _ => rfl
  | 2, _ => rfl
  | 3, _ => rfl
  | 4, _ => rfl
  | 5, _ => rfl
  | 6, _ => rfl
  | 7, _ => rfl
  | 8, _ => rfl
  | 9, _ => rfl
  | 10, _ => rfl
  | 11, _ => rfl
  | 12, _ => rfl
  | 13, _ => rfl
  | 14, _ => rfl
  | 15, _ => rfl
  | 16, _ => rfl
  | 17, _ => rfl
  | 18, _ => rfl
  | j + 19, h => omega
end Go.Proofs.YtgmcfinjlddgbaaGreatDoor

/- Objects. -/
import Derived.Test.YtmpljhfinmfnbaaDoorGt2
import Derived.Maps.OwnIn
import Derived.Maps.Views
import Derived.Sort.KeysCollected
namespace Go.Proofs.YtmpljhfinmfnbaaDoor
open Go.RowKit Go.Maps
set_option linter.unusedVariables false
set_option maxRecDepth 100000
structure Cor where
  name : ByteArray
  code : List Ins
structure Ob where
  mem : List Int
  sh : Int
  lk : Int
  bf : Int
  cores : List Cor
/-- Lists in memory. -/
def intsAt (W : World) (l : List Int) (a : Option Addr) : Prop := l = [] ∨ ∃ g q, a = some ⟨g, q, none⟩ ∧ ∀ (j : Nat) (x : Int), l[j]? = some x → W.cell? ⟨g, q + j, none⟩ = some (.int .i64 x)
def insAt (W : World) (l : List Ins) (a : Option Addr) : Prop := l = [] ∨ ∃ g q, a = some ⟨g, q, none⟩ ∧ ∀ (j : Nat) (i : Ins), l[j]? = some i → ∀ (m : Nat) (v : Value), (insC i)[m]? = some v → W.cell? ⟨g, q + j * 9 + m, none⟩ = some v
def corsAt (W : World) (l : List Cor) (a : Option Addr) : Prop := l = [] ∨ ∃ g q, a = some ⟨g, q, none⟩ ∧ ∀ (j : Nat) (c : Cor), l[j]? = some c → W.cell? ⟨g, q + j * 2, none⟩ = some (.string c.name) ∧ ∃ a2 c2, W.cell? ⟨g, q + j * 2 + 1, none⟩ = some (.slice a2 c.code.length c2) ∧ insAt W c.code a2
def obV (o : Ob) (a1 : Option Addr) (c1 : Nat) (a5 : Option Addr) (c5 : Nat) : Value := .agg #[.slice a1 o.mem.length c1, .int .i64 o.sh, .int .i64 o.lk, .int .i64 o.bf, .slice a5 o.cores.length c5]
def obA (W : World) (o : Ob) (v : Value) : Prop := ∃ a1 c1 a5 c5, v = obV o a1 c1 a5 c5 ∧ intsAt W o.mem a1 ∧ corsAt W o.cores a5
def rgO (o : Ob) : Prop := (∀ x ∈ o.mem, -9223372036854775808 ≤ x ∧ x ≤ 9223372036854775807) ∧ (-9223372036854775808 ≤ o.sh ∧ o.sh ≤ 9223372036854775807) ∧ (-9223372036854775808 ≤ o.lk ∧ o.lk ≤ 9223372036854775807) ∧ (-9223372036854775808 ≤ o.bf ∧ o.bf ≤ 9223372036854775807) ∧ ∀ c ∈ o.cores, ∀ i ∈ c.code, rgI i
def fitO (o : Ob) : Prop := o.mem.length ≤ 140737488351232 ∧ o.cores.length ≤ 140737488351232 ∧ ∀ c ∈ o.cores, c.name.size ≤ 140737488351232 ∧ c.code.length ≤ 140737488351232
section
variable {W W' : World}
theorem intsAt_below {l : List Int} {a : Option Addr} (h : intsAt W l a) (hb : Below W.heap.size W W') : intsAt W' l a := by
  rcases h with h | ⟨g, q, e, h⟩
  · exact .inl h
  · exact .inr ⟨g, q, e, fun j x hj => (hb.cell (p := ⟨g, q + j, none⟩) (lt_of_at (h j x hj))).trans (h j x hj)⟩
theorem insAt_below {l : List Ins} {a : Option Addr} (h : insAt W l a) (hb : Below W.heap.size W W') : insAt W' l a := by
  rcases h with h | ⟨g, q, e, h⟩
  · exact .inl h
  · exact .inr ⟨g, q, e, fun j i hj m v hv => (hb.cell (p := ⟨g, q + j * 9 + m, none⟩) (lt_of_at (h j i hj m v hv))).trans (h j i hj m v hv)⟩
theorem corsAt_below {l : List Cor} {a : Option Addr} (h : corsAt W l a) (hb : Below W.heap.size W W') : corsAt W' l a := by
  rcases h with h | ⟨g, q, e, h⟩
  · exact .inl h
  · refine .inr ⟨g, q, e, fun j c hj => ?_⟩
    obtain ⟨h1, a2, c2, h2, h3⟩ := h j c hj
    exact ⟨(hb.cell (p := ⟨g, q + j * 2, none⟩) (lt_of_at h1)).trans h1, a2, c2, (hb.cell (p := ⟨g, q + j * 2 + 1, none⟩) (lt_of_at h2)).trans h2, insAt_below h3 hb⟩
theorem obA_below {o : Ob} {v : Value} (h : obA W o v) (hb : Below W.heap.size W W') : obA W' o v := by
  obtain ⟨a1, c1, a5, c5, h0, h1, h2⟩ := h
  exact ⟨a1, c1, a5, c5, h0, intsAt_below h1 hb, corsAt_below h2 hb⟩
end
/-- Is a code right but for its instructions? -/
def lastK (l : List Ins) : Int := match l.getLast? with | some i => i.k | none => 0
def codeB (l : List Ins) : Bool := decide (1 ≤ l.length) && (decide (l.length ≤ 16384) && (lastK l == 10 || lastK l == 8))
def corB (seen : List (List UInt8)) (c : Cor) : Bool := nameB c.name && (!(seen.contains c.name.data.toList) && codeB c.code)
def corsB : List (List UInt8) → List Cor → Bool
  | _, [] => true
  | seen, c :: r => corB seen c && corsB (seen ++ [c.name.data.toList]) r
def nmsO (l : List Cor) : List (List UInt8) := l.map fun c => c.name.data.toList
theorem corsB_app : ∀ (seen : List (List UInt8)) (l r : List Cor), corsB seen (l ++ r) = (corsB seen l && corsB (seen ++ nmsO l) r)
  | seen, [], r => by simp [corsB, nmsO]
  | seen, c :: l, r => by
    simp only [List.cons_append, corsB, corsB_app (seen ++ [c.name.data.toList]) l r, Bool.and_assoc]
    rw [show seen ++ nmsO (c :: l) = seen ++ [c.name.data.toList] ++ nmsO l by simp [nmsO]]
/-- Is an object right but for its instructions? -/
def topB (o : Ob) : Bool := inB o.sh 65 && (inB o.lk 17 && (decide (o.sh + o.lk ≤ o.mem.length) && (decide (o.mem.length ≤ 4096) && (decide (1 ≤ o.bf) && (decide (o.bf ≤ 16) && (decide (o.cores.length ≤ 8) && corsB [] o.cores))))))
/-- The map of names. -/
abbrev MO (w : World) (m n : Nat) (D : DataW Unit) : Prop := w.ownsMap Tryd.prog 9 (plainElem Tryd.prog 3) m n D
theorem mlaw : Keyed Tryd.prog 9 := string_keyed Tryd.underlying9
theorem mzero (w : World) : (zeroValue 3).run Tryd.prog w = .ok (.int .i64 0) w := by kernel_rfl
theorem mo_same {w w' : World} {m n : Nat} {D : DataW Unit} (h : MO w m n D) (e : w'.heap[m]? = w.heap[m]?) : MO w' m n D := by
  obtain ⟨es, c, hb, r⟩ := h
  exact ⟨es, c, e.trans hb, r⟩
theorem mo_isMap {w : World} {m n : Nat} {D : DataW Unit} (h : MO w m n D) : IsMap D := by
  obtain ⟨es, c, hb, F, hs, rfl⟩ := h
  exact ⟨_, rfl⟩
def cntI (b : Bool) : Int := bif b then 1 else 0
/-- The names so far, each once. -/
def Nx (m : Nat) (names : List (List UInt8)) (W : World) : Prop := ∃ D : DataW Unit, MO W m names.length D ∧ ∀ s : List UInt8, D.atKey (.string s) (.lit (.int .i64 0)) = .lit (.int .i64 (cntI (names.contains s)))
theorem nx_new (w : World) : Nx w.heap.size [] (w.alloc (.map #[] 0)) := ⟨.map [], World.ownsMap_made w _ _ _, fun s => rfl⟩
theorem nx_same {m : Nat} {l : List (List UInt8)} {W W' : World} (h : Nx m l W) (e : W'.heap[m]? = W.heap[m]?) : Nx m l W' := by
  obtain ⟨D, h1, h2⟩ := h
  exact ⟨D, mo_same h1 e, h2⟩
theorem nx_look {m : Nat} {l : List (List UInt8)} {W : World} (h : Nx m l W) (s : ByteArray) (hs : s.size ≤ maxLen) : (Instr.lookup 152 (.map (some m)) (.string s) false).run Tryd.prog W = .ok (.int .i64 (cntI (l.contains s.data.toList))) W := by
  obtain ⟨D, hD, hk⟩ := h
  obtain ⟨c, hrun, hat, _⟩ := hD.lookup_int mlaw Tryd.underlying152 Tryd.underlying3 (mzero _) (WideMaps.keyOf_string_mk Tryd.underlying9 hs)
  rw [hk] at hat
  have : c = cntI (l.contains s.data.toList) := by simpa using hat.symm
  rw [hrun, this]
/-- A name is counted: what the map says of it then. -/
theorem nx_put {m : Nat} {l : List (List UInt8)} {W : World} (h : Nx m l W) (s : ByteArray) (hs : s.size ≤ maxLen) (hl : l.length < 1000) : ∃ Z : World, (Instr.mapUpdate 152 (.map (some m)) (.string s) (.int .i64 (cntI (l.contains s.data.toList) + 1))).run Tryd.prog W = .ok () Z ∧ W.grownBy Z (some m) ∧ (Instr.lookup 152 (.map (some m)) (.string s) false).run Tryd.prog Z = .ok (.int .i64 (cntI (l.contains s.data.toList) + 1)) Z ∧ (l.contains s.data.toList = false → Nx m (l ++ [s.data.toList]) Z) := by
  obtain ⟨D, hD, hk⟩ := h
  have hkey : keyOf Tryd.prog 9 (.string s) = some (.string s.data.toList) := WideMaps.keyOf_string_mk Tryd.underlying9 hs
  have hwf : (Lit.int .i64 (cntI (l.contains s.data.toList) + 1)).wf = true := by cases l.contains s.data.toList <;> decide
  obtain ⟨Z, h1, h2, h3⟩ := hD.update mlaw Tryd.underlying152 (show l.length < maxLen by unfold maxLen; omega) hkey (plainElem_int Tryd.underlying3 hwf)
  have hat : ∀ u : List UInt8, (D.put (.string s.data.toList) (.lit (.int .i64 (cntI (l.contains s.data.toList) + 1)))).atKey (.string u) (.lit (.int .i64 0)) = .lit (.int .i64 (if u = s.data.toList then cntI (l.contains s.data.toList) + 1 else cntI (l.contains u))) := fun u => by
    by_cases e : u = s.data.toList
    · rw [if_pos e, e, atKey_put_same (mo_isMap hD) (show WideAt.IsKeyLit (.string s.data.toList) from trivial)]
    · rw [if_neg e, atKey_put_other (fun h => e (by injection h)), hk]
  refine ⟨Z, h1, h3, ?_, fun hno => ⟨_, by rw [List.length_append]; exact h2, fun u => ?_⟩⟩
  · obtain ⟨c, hrun, hc, _⟩ := h2.lookup_int mlaw Tryd.underlying152 Tryd.underlying3 (mzero _) hkey
    rw [hat, if_pos rfl] at hc
    have : c = cntI (l.contains s.data.toList) + 1 := by simpa using hc.symm
    rw [hrun, this]
  · rw [hat]
    by_cases e : u = s.data.toList
    · rw [if_pos e, e, hno]
      simp [cntI]
    · rw [if_neg e]
      have : (l ++ [s.data.toList]).contains u = l.contains u := by
        rw [Bool.eq_iff_iff]
        simp [e]
      rw [this]
end Go.Proofs.YtmpljhfinmfnbaaDoor

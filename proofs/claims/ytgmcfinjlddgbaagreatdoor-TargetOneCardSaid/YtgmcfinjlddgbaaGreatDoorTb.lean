/- Target's text writer: what it has put together. -/
import Derived.Test.YtgmcfinjlddgbaaGreatDoorGc0
import Derived.Lib.AppendStr
import Derived.Lib.Builder
import Derived.Lib.UnsafeStr
import Derived.Lib.Strings
import Derived.Laws.Externs
import Derived.Shelf.RegionOpenPlain
namespace Go.Proofs.YtgmcfinjlddgbaaGreatDoor
open Go.RowKit
set_option linter.unusedVariables false
set_option maxRecDepth 100000
/-- Every block but the writer's own, and rows of bytes. -/
def selW (b : Nat) (k : Nat) (o : Obj) : Prop := k ≠ b ∧ ¬ IsTy 5 o
/-- A writer: what it has put together; how deep it is; its table. -/
def WtP (b : Nat) (p v : Value) (txt : List UInt8) (W : World) : Prop :=
  Own W b 82 #[p, v] ∧ (p = .pointer none ∨ p = .pointer (some ⟨b, 0, none⟩)) ∧ (txt = [] → v = .slice none 0 0) ∧ W.ownsRow (b + 1) 5 1 v txt.length (Lib.byteCells txt)
def Wt (b : Nat) (txt : List UInt8) (W : World) : Prop := ∃ p v, WtP b p v txt  W
theorem infoBl : (Tryz.prog.info? 80).map (·.size) = some 2 := by kernel_rfl
theorem wt_shape {w : World} {b : Nat} {cs : Array Value} (h : Own w b 82 cs) : w.shape? b = some (82, cs.size) := by
  have h' : w.heap[b]? = some (.cells cs 82 (0, 0)) := h
  simp [World.shape?, h']
set_option maxHeartbeats 1000000 in
theorem wt_check {b : Nat} {txt : List UInt8} {w : World} (h : Wt b txt  w) :
    Calls Tryz.prog 105 #[.pointer (some ⟨b, 0, none⟩)] w fun e w' => e = .returned (.tuple #[]) ∧ (∃ v, WtP b (.pointer (some ⟨b, 0, none⟩)) v txt  w') ∧ Keep (selW b) w w' ∧ w'.heap.size = w.heap.size ∧ Below b w w' := by
  obtain ⟨p, v, ho, hp, hv0, hr⟩ := h
  have c0 : w.cell? ⟨b, 0, none⟩ = some p := by rw [cell_of_row _ _ 0 _ _ _ ho]; rfl
  have z0 : w.frozen? ⟨b, 0, none⟩ = false := own_frozen ho 0
  obtain ⟨j, hj, hjs⟩ := Option.map_eq_some_iff.1 infoBl
  have hsh := wt_shape ho
  have hsz : #[p, v].size = 2 := rfl
  rw [hsz] at hsh
  rcases hp with rfl | rfl
  · have HO := Lib.hid ho
    have HR := Lib.hid hr
    clear ho hr
    go_enter Tryz.func105, Tryz.ntmps105
    go_wp2
    rw [Lib.run_to_unsafe w ⟨b, 0, none⟩ Tryz.underlying78 Tryz.underlying166 hj (by rw [hjs]; decide) hsh (Nat.zero_lt_succ 1)]
    simp only [Result.andThen]
    rw [Oper.upon_value]
    go_wp2
    rw [run_callFunc_extern Tryz.func123 (by kernel_rfl) (by kernel_rfl) (by kernel_rfl) (e := Extern.AbiNoEscape.same) (by kernel_rfl)]
    rw [Lib.run_noEscape]
    simp only [Result.andThen]
    rw [Oper.upon_value]
    go_wp2
    rw [Lib.run_from_unsafe w ⟨b, 0, none⟩ Tryz.underlying166 Tryz.underlying78 hj hsh (by kernel_rfl)]
    simp only [Result.andThen]
    rw [Oper.upon_value]
    go_wp2
    refine bodyPost_end (results_none rfl _ _ _) rfl ⟨rfl, ⟨v, ?_, .inr rfl, hv0, ?_⟩, ?_, by simp, (Below.refl b w).setCell (p := ⟨b, 0, none⟩) (Nat.le_refl b) _⟩
    · exact heap_setCell_same w b 0 _ _ _ HO.out
    · exact ownsRow_setCell_below HR.out (show b < b + 1 by omega) _
    · exact (Keep.refl _ w).setCell (p := ⟨b, 0, none⟩) _ HO.out (fun hs => hs.1 rfl)
  · have HO := Lib.hid ho
    have HR := Lib.hid hr
    clear ho hr
    go_enter Tryz.func105, Tryz.ntmps105
    go_wp2
    rw [Lib.run_neq_ptr_same w _ Tryz.underlying78 hj]
    go_wp2
    exact bodyPost_end (results_none rfl _ _ _) rfl ⟨rfl, ⟨v, HO.out, .inr rfl, hv0, HR.out⟩, Keep.refl _ _, rfl, Below.refl _ _⟩
theorem wt_slice {b : Nat} {p v : Value} {txt : List UInt8} {w : World} (h : WtP b p v txt  w) : ∃ ao cap, v = .slice ao txt.length cap := by
  rcases h.2.2.2.2 with ⟨hv, h0⟩ | ⟨g, cap, cur, hv, _⟩
  · exact ⟨none, 0, by rw [hv, h0]⟩
  · exact ⟨_, _, hv⟩
theorem wt_len {b : Nat} {txt : List UInt8} {w : World} (h : Wt b txt  w) :
    Calls Tryz.prog 57 #[.pointer (some ⟨b, 0, none⟩)] w fun e w' => e = .returned (.int .i64 txt.length) ∧ w = w' := by
  obtain ⟨p, v, h⟩ := h
  obtain ⟨ao, cap, rfl⟩ := wt_slice h
  have c1 : w.cell? ⟨b, 1, none⟩ = some (.slice ao txt.length cap) := by rw [cell_of_row _ _ 1 _ _ _ h.1]; rfl
  clear h
  go_enter Tryz.func57, Tryz.ntmps57
  go_wp2
  go_ret
  exact ⟨rfl, rfl⟩
theorem row_bytesW {w : World} {B : Nat} {v : Value} {n : Nat} {xs : List Value} (h : w.ownsRow B 5 1 v n xs) (b : Nat) {w' : World} (hw : ∀ k o, k < w.heap.size → w.heap[k]? = some o → w'.heap[k]? = some o) : ∀ r o, v.ownBlock = some r → w'.heap[r]? = some o → ¬ selW b r o := by
  intro r o hr ho hs
  rcases h.2 with ⟨rfl, _⟩ | ⟨g, cap, cur, rfl, _, hg, _⟩
  · simp [Value.ownBlock] at hr
  · have e : g = r := by simpa [Value.ownBlock] using hr
    subst e
    rw [hw g _ (Array.getElem?_eq_some_iff.1 hg).1 hg] at ho
    cases ho
    exact hs.2 ⟨_, _, rfl⟩
theorem empty_bytes {s : ByteArray} (h : s.data.toList = []) : s = ByteArray.empty := by
  cases s with
  | mk dd =>
    have h3 : dd = #[] := Array.toList_eq_nil_iff.1 h
    subst h3
    rfl
theorem strCells_bytes (s : ByteArray) : Lib.strCells s = Lib.byteCells s.data.toList := rfl
theorem bytes_append (a b : List UInt8) : Lib.byteCells a ++ Lib.byteCells b = Lib.byteCells (a ++ b) := by simp [Lib.byteCells]
set_option maxHeartbeats 2000000 in
theorem wt_write {b : Nat} {txt : List UInt8} {w : World} (h : Wt b txt  w) (s : ByteArray) (hlen : txt.length + s.size ≤ 140737488355328) :
    Calls Tryz.prog 75 #[.pointer (some ⟨b, 0, none⟩), .string s] w fun e w' => e = .returned (.tuple #[.int .i64 s.size, .nilIface]) ∧ Wt b (txt ++ s.data.toList)  w' ∧ Keep (selW b) w w' ∧ Below b w w' := by
  obtain ⟨i0, hi, hz0, hz1, hz2⟩ := info_parts infoU8'
  have HC := Lib.hid (wt_check h)
  clear h
  go_enter Tryz.func75, Tryz.ntmps75
  go_wp2_with (go_at_call 105; refine (HC.out).mono ?_)
  rintro e w1 ⟨rfl, ⟨v, hbk, _, hv0, hown⟩, hk1, hz, hb1⟩
  have hzl : w.heap.size ≤ w1.heap.size := Nat.le_of_eq hz.symm
  clear hz HC
  have c0 : w1.cell? ⟨b, 0, none⟩ = some (.pointer (some ⟨b, 0, none⟩)) := by rw [cell_of_row _ _ 0 _ _ _ hbk]; rfl
  have c1 : w1.cell? ⟨b, 1, none⟩ = some v := by rw [cell_of_row _ _ 1 _ _ _ hbk]; rfl
  have hlt : b < w1.heap.size := hbk.lt
  have HK := Lib.hid hbk
  clear hbk
  go_wp2_with (at_builtin; refine Lib.wpList_append_own_string _ rfl _ _ 50 9 rfl (b + 1) 5 i0 Tryz.underlying50 Tryz.underlying9 hi hz0 hz1 hz2 _ _ _ rfl hown s rfl ?c3 ?c4 ?c5 ?_)
  case c3 => unfold maxLen; omega
  case c4 => omega
  case c5 => omega
  intro v' w2 hown' hgrow hiff
  have hne : v.ownBlock ≠ some b := by
    intro e
    obtain ⟨h1, _⟩ := hown.lt _ e
    omega
  have hb2 : Own w2 b 82 #[.pointer (some ⟨b, 0, none⟩), v] := by
    have := hgrow.block b hlt (fun e => hne e.symm)
    exact this.trans HK.out
  have d0 : w2.cell? ⟨b, 0, none⟩ = some (.pointer (some ⟨b, 0, none⟩)) := by rw [cell_of_row _ _ 0 _ _ _ hb2]; rfl
  have d1 : w2.cell? ⟨b, 1, none⟩ = some v := by rw [cell_of_row _ _ 1 _ _ _ hb2]; rfl
  have f1 : w2.frozen? ⟨b, 1, none⟩ = false := own_frozen hb2 1
  obtain ⟨ao, n', cap, rfl⟩ : ∃ ao n' cap, v' = .slice ao n' cap := by
    rcases hown'.2 with ⟨hv, _⟩ | ⟨g, cap, cur, hv, _⟩
    · exact ⟨_, _, _, hv⟩
    · exact ⟨_, _, _, hv⟩
  have kG : Keep (selW b) w w2 := hk1.grown hgrow (row_bytesW hown b (fun _ _ _ ho => ho))
  have HB2 := Lib.hid hb2
  have HI := Lib.hid hiff
  clear hb2 hiff
  go_wp2
  go_ret2
  refine ⟨rfl, ⟨_, _, heap_setCell_same w2 b 1 _ _ _ HB2.out, .inr rfl, ?_, ?_⟩, kG.setCell (p := ⟨b, 1, none⟩) _ HB2.out (fun hs => hs.1 rfl), ?_⟩
  · intro h0
    obtain ⟨h1, h2⟩ := List.append_eq_nil_iff.1 h0
    exact HI.out.2 ⟨hv0 h1, empty_bytes h2⟩
  · have h3 : (txt ++ s.data.toList).length = txt.length + s.size := by rw [List.length_append, Array.length_toList]; rfl
    rw [h3, ← bytes_append, ← strCells_bytes]
    exact ownsRow_setCell_below hown' (show b < b + 1 by omega) _
  · exact (hb1.grown hgrow (by omega) (fun k hk => by have := (hown.lt k hk).1; omega)).setCell (p := ⟨b, 1, none⟩) (Nat.le_refl b) _
set_option maxHeartbeats 2000000 in
theorem wt_string {b : Nat} {txt : List UInt8} {w : World} (h : Wt b txt  w) :
    Calls Tryz.prog 51 #[.pointer (some ⟨b, 0, none⟩)] w fun e w' => e = .returned (.string ⟨txt.toArray⟩) ∧ Below b w w' := by
  obtain ⟨p, v, h⟩ := h
  have hbk := h.1
  have hown := h.2.2.2
  by_cases h0 : txt = []
  · subst h0
    obtain rfl := h.2.2.1 rfl
    have hUS := Lib.run_unsafeString_none (P := Tryz.prog) w.drew 132 3 9 none
    have c1 : w.drew.cell? ⟨b, 1, none⟩ = some (.slice none 0 0) := by
      have : w.cell? ⟨b, 1, none⟩ = some (.slice none 0 0) := by rw [cell_of_row _ _ 1 _ _ _ hbk]; rfl
      exact this
    have hSD : (Builtin.unsafeSliceData_ #[50] 132 #[.slice none 0 0]).run Tryz.prog w.drew = .ok (.pointer none) w.drew := rfl
    have mixed : Tryz.prog.follows .mixedOrders = true := by kernel_rfl
    clear h hown hbk
    go_enter Tryz.func51, Tryz.ntmps51
    go_wp2
    go_region_o
    all_goals (go_wp2; go_ret; exact ⟨rfl, Below.drew (Below.refl b w)⟩)
  · have hl0 : txt.length ≠ 0 := by simpa using h0
    obtain ⟨g, cap, cur, rfl, hbg, hg, hnc, hcm, hcs, htake⟩ : ∃ g cap cur, v = .slice (some ⟨g, 0, none⟩) txt.length cap ∧ b + 1 ≤ g ∧ w.heap[g]? = some (.cells cur 5 (0, 0)) ∧ txt.length ≤ cap ∧ cap ≤ maxLen ∧ cur.size = cap * 1 ∧ cur.toList.take (txt.length * 1) = Lib.byteCells txt := by
      rcases hown.2 with ⟨_, hz⟩ | ⟨g, cap, cur, hv, r⟩
      · exact absurd hz hl0
      · exact ⟨g, cap, cur, hv, r⟩
    have c1 : w.drew.cell? ⟨b, 1, none⟩ = some (.slice (some ⟨g, 0, none⟩) txt.length cap) := by
      have : w.cell? ⟨b, 1, none⟩ = some (.slice (some ⟨g, 0, none⟩) txt.length cap) := by rw [cell_of_row _ _ 1 _ _ _ hbk]; rfl
      exact this
    have hSD : (Builtin.unsafeSliceData_ #[50] 132 #[.slice (some ⟨g, 0, none⟩) txt.length cap]).run Tryz.prog w.drew = .ok (.pointer (some ⟨g, 0, none⟩)) w.drew :=
      Lib.run_unsafeSliceData_row _ _ _ _ _ _ (by omega)
    have hUS : (Builtin.unsafeString_ #[132, 3] 9 #[.pointer (some ⟨g, 0, none⟩), .int .i64 txt.length]).run Tryz.prog w.drew = .ok (.string ⟨txt.toArray⟩) (w.drew.freeze ⟨g, 0, none⟩ txt.length) := by
      refine Lib.run_unsafeString_row w.drew 132 3 9 5 Tryz.underlying132 (by kernel_rfl) g cur.size (by have hg' : w.drew.heap[g]? = some (.cells cur 5 (0, 0)) := hg; simp [World.shape?, hg']) txt h0 (by omega) (by unfold maxLen at hcm; omega) ?_
      intro j x hx
      have := hown.cells (g := g) rfl j (.int .u8 x.toNat) (by simp [Lib.byteCells, hx])
      exact this
    have mixed : Tryz.prog.follows .mixedOrders = true := by kernel_rfl
    clear h hown hbk
    go_enter Tryz.func51, Tryz.ntmps51
    go_wp2
    go_region_o
    all_goals (go_wp2; go_ret; exact ⟨rfl, Lib.below_freeze (Below.drew (Below.refl b w)) (p := ⟨g, 0, none⟩) (by show b ≤ g; omega) _⟩)
set_option maxHeartbeats 2000000 in
theorem wt_byte {b : Nat} {txt : List UInt8} {w : World} (h : Wt b txt w) (c : Int) (h0 : 0 ≤ c) (h1 : c ≤ 255) (hlen : txt.length + 1 ≤ 140737488355328) :
    Calls Tryz.prog 83 #[.pointer (some ⟨b, 0, none⟩), .int .u8 c] w fun e w' => e = .returned .nilIface ∧ Wt b (txt ++ [UInt8.ofNat c.toNat]) w' ∧ Keep (selW b) w w' ∧ Below b w w' := by
  obtain ⟨i0, hi, hz0, hz1, hz2⟩ := info_parts infoU8'
  have HC := Lib.hid (wt_check h)
  clear h
  go_enter Tryz.func83, Tryz.ntmps83
  go_wp2_with (go_at_call 105; refine (HC.out).mono ?_)
  rintro e w1 ⟨rfl, ⟨v, hbk, _, hv0, hown⟩, hk1, hz, hb1⟩
  have hzl : w.heap.size ≤ w1.heap.size := Nat.le_of_eq hz.symm
  clear hz HC
  have c0 : w1.cell? ⟨b, 0, none⟩ = some (.pointer (some ⟨b, 0, none⟩)) := by rw [cell_of_row _ _ 0 _ _ _ hbk]; rfl
  have c1 : w1.cell? ⟨b, 1, none⟩ = some v := by rw [cell_of_row _ _ 1 _ _ _ hbk]; rfl
  have hlt : b < w1.heap.size := hbk.lt
  have HK := Lib.hid hbk
  have hlb : (Lib.byteCells txt).length = txt.length := by simp [Lib.byteCells]
  clear hbk
  go_wp2_with (at_builtin; refine wpList_append_own _ rfl _ _ 50 rfl (b + 1) 5 i0 (.int .u8 0) 1 1 Tryz.underlying50 hi hz0 hz1 hz2 rfl (by decide) v txt.length (Lib.byteCells txt) rfl (hown.alloc _) ⟨w1.heap.size, 0, none⟩ 1 1 [.int .u8 c] rfl rfl ?c1 ?c2 ?c3 ?c4 ?c5 ?_)
  case c1 =>
    intro j u hj
    match j, hj with
    | 0, hj => simp at hj; subst hj; simp [Addr.add]
  case c2 => intro u hu; simp at hu; subst hu; rfl
  case c3 => unfold maxLen; omega
  case c4 => omega
  case c5 => simp; omega
  intro v' w2 hown' hgrow _
  have hne : v.ownBlock ≠ some b := by
    intro e
    obtain ⟨h1, _⟩ := hown.lt _ e
    omega
  have hb2 : Own w2 b 82 #[.pointer (some ⟨b, 0, none⟩), v] := by
    have := hgrow.block b (by simp; omega) (fun e => hne e.symm)
    exact this.trans (HK.out.alloc _)
  have d0 : w2.cell? ⟨b, 0, none⟩ = some (.pointer (some ⟨b, 0, none⟩)) := by rw [cell_of_row _ _ 0 _ _ _ hb2]; rfl
  have d1 : w2.cell? ⟨b, 1, none⟩ = some v := by rw [cell_of_row _ _ 1 _ _ _ hb2]; rfl
  have f1 : w2.frozen? ⟨b, 1, none⟩ = false := own_frozen hb2 1
  obtain ⟨ao, n', cap, rfl⟩ : ∃ ao n' cap, v' = .slice ao n' cap := by
    rcases hown'.2 with ⟨hv, _⟩ | ⟨g, cap, cur, hv, _⟩
    · exact ⟨_, _, _, hv⟩
    · exact ⟨_, _, _, hv⟩
  have kG : Keep (selW b) w w2 := (hk1.trans (keep_below ((Below.refl _ w1).alloc (Nat.le_refl _) _))).grown hgrow (row_bytesW hown b (fun k o hk ho => (Below.heap_alloc _ _ _ hk).trans ho))
  have HB2 := Lib.hid hb2
  have hcc : (UInt8.ofNat c.toNat).toNat = c.toNat := by rw [UInt8.toNat_ofNat']; omega
  have HO : Hid (w2.ownsRow (b + 1) 5 1 (.slice ao n' cap) (txt ++ [UInt8.ofNat c.toNat]).length (Lib.byteCells (txt ++ [UInt8.ofNat c.toNat]))) := by
    rw [Hid, ← bytes_append, List.length_append]
    have e : Lib.byteCells [UInt8.ofNat c.toNat] = [.int .u8 c] := by
      simp only [Lib.byteCells, List.map_cons, List.map_nil, hcc]
      rw [show ((c.toNat : Nat) : Int) = c by omega]
    rw [e]
    exact hown'
  have HB : Hid (Below b w w2) := (hb1.alloc (by omega) _).grown hgrow (by simp; omega) (fun k hk => by have := (hown.lt k hk).1; omega)
  have HKG := Lib.hid kG
  clear hb2 hown' hgrow hne kG hcc
  go_wp2
  go_ret
  exact ⟨rfl, ⟨_, _, heap_setCell_same w2 b 1 _ _ _ HB2.out, .inr rfl, fun h => absurd h (by simp), ownsRow_setCell_below HO.out (show b < b + 1 by omega) _⟩, HKG.out.setCell (p := ⟨b, 1, none⟩) _ HB2.out (fun hs => hs.1 rfl), HB.out.setCell (p := ⟨b, 1, none⟩) (Nat.le_refl b) _⟩
end Go.Proofs.YtgmcfinjlddgbaaGreatDoor

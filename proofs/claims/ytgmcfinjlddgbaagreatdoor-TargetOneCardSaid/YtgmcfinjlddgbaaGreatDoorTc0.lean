/- Target's byte writer: digits. -/
import Derived.Test.YtgmcfinjlddgbaaGreatDoorTw5
namespace Go.Proofs.YtgmcfinjlddgbaaGreatDoor
open Go.RowKit
set_option linter.unusedVariables false
set_option maxRecDepth 100000
/-- A byte writer and what it has put together. -/
def YtP (b : Nat) (v : Value) (txt : List UInt8) (W : World) : Prop := Own W b 93 #[v] ∧ W.ownsRow (b + 1) 5 1 v txt.length (Lib.byteCells txt)
def Yt (b : Nat) (txt : List UInt8) (W : World) : Prop := ∃ v, YtP b v txt W
structure Yq (w : World) (b : Nat) (t : List UInt8) (W : World) : Prop where
  wt : Yt b t W
  keep : Keep (selW b) w W
  bel : Below b w W
section
variable {w W W' : World} {b : Nat} {t : List UInt8}
theorem Yt.lt (h : Yt b t W) : b < W.heap.size := by obtain ⟨v, h⟩ := h; exact h.1.lt
theorem Yt.below (h : Yt b t W) (hb : Below W.heap.size W W') : Yt b t W' := by
  obtain ⟨v, h1, h5⟩ := h
  exact ⟨v, h1.below hb, row_below h5 hb⟩
theorem Yq.below (h : Yq w b t W) (hb : Below W.heap.size W W') : Yq w b t W' := ⟨h.wt.below hb, h.keep.trans (keep_below hb), h.bel.trans (hb.mono (Nat.le_of_lt h.wt.lt))⟩
theorem yq_new (h : Yt b t w) : Yq w b t w := ⟨h, Keep.refl _ _, Below.refl _ _⟩
theorem Yq.trans {w0 : World} {t' : List UInt8} (h : Yq w0 b t w) (k : Yq w b t' W) : Yq w0 b t' W := ⟨k.wt, h.keep.trans k.keep, h.bel.trans k.bel⟩
theorem Yq.own (h : Yq w b t W) {g : Nat} {ty : TypeId} {row : Array Value} (ho : Own w g ty row) (hg : g ≠ b) (hn : Nu8 ty) : Own W g ty row := h.keep.block _ _ ho ⟨hg, hn _⟩
end
/-- The digits of a number. -/
def dg : Nat → Nat → List UInt8
  | 0, _ => []
  | f + 1, n => if n ≤ 127 then [UInt8.ofNat n] else UInt8.ofNat (n % 128 + 128) :: dg f (n / 128)
def dgT (n : Nat) : List UInt8 := dg 10 n
theorem dg_len : ∀ f n, (dg f n).length ≤ f
  | 0, _ => by simp [dg]
  | f + 1, n => by
    have := dg_len f (n / 128)
    unfold dg
    split <;> simp <;> omega
theorem or_dig : ∀ k : Nat, k < 256 → bits BinOp.or IntKind.u8 (k : Int) 128 = ((k % 128 + 128 : Nat) : Int) := by decide
set_option maxHeartbeats 4000000 in
theorem y_digits {w : World} {b : Nat} {txt : List UInt8} (h : Yt b txt w) (n : Nat) (hn : n ≤ 18446744073709551615) (hlen : txt.length ≤ 140737488355000) :
    Calls Tryz.prog 109 #[.pointer (some ⟨b, 0, none⟩), .int .u64 n] w fun e w' => e = .returned (.tuple #[]) ∧ Yq w b (txt ++ dgT n) w' := by
  obtain ⟨i0, hi, hz0, hz1, hz2⟩ := info_parts infoU8'
  have HQ0 := Lib.hid (yq_new h)
  have HLEN := Lib.hid hlen
  clear h hlen
  go_enter Tryz.func109, Tryz.ntmps109
  go_wp2_with fail
  go_loopg [1] 10 (fun m' z X => ∃ (f m : Nat) (cur : List UInt8), z = .int .u64 (m : Int) ∧ m < 128 ^ (f + 1) ∧ m ≤ 18446744073709551615 ∧ f < 10 ∧ m' = f + 1 ∧ txt ++ dgT n = cur ++ dg (f + 1) m ∧ cur.length + f ≤ txt.length + 9 ∧ Yq w b cur X)
  case atStart => exact ⟨9, n, txt, rfl, by omega, hn, by omega, by omega, rfl, by omega, HQ0.out⟩
  case round =>
    clear HQ0
    obtain ⟨f, m, cur, rfl, hm1, hm2, hf, hm', hcat, hcl, hq⟩ := hrel
    obtain ⟨⟨v, hbk, hown⟩, hkp, hbl⟩ := hq
    have c0 : wr.cell? ⟨b, 0, none⟩ = some v := by rw [cell_of_row _ _ 0 _ _ _ hbk]; rfl
    have hlt : b < wr.heap.size := hbk.lt
    have HK := Lib.hid hbk
    have HKP := Lib.hid hkp
    have HBL := Lib.hid hbl
    have hlb : (Lib.byteCells cur).length = cur.length := by simp [Lib.byteCells]
    have HM := Lib.hid hm'
    have HCT := Lib.hid hcat
    have HLN := HLEN.out
    clear hbk hkp hbl hm' hcat
    by_cases hbig : 127 < (m : Int)
    · obtain ⟨c, hc⟩ : ∃ c : Nat, c = m % 128 + 128 := ⟨_, rfl⟩
      have hor : bits BinOp.or IntKind.u8 ((m : Int) % 256) 128 = (c : Int) := by
        rw [hc]
        have := or_dig (m % 256) (by omega)
        rw [show ((m : Int) % 256) = ((m % 256 : Nat) : Int) by omega, this]
        omega
      have hc1 : c ≤ 255 := by omega
      obtain ⟨f', rfl⟩ : ∃ f', f = f' + 1 := by
        rcases f with _ | f
        · simp at hm1; omega
        · exact ⟨f, rfl⟩
      have HCT2 : Hid (txt ++ dgT n = (cur ++ [UInt8.ofNat c]) ++ dg (f' + 1) (m / 128)) := by
        rw [Hid, HCT.out, dg, if_neg (by omega), ← hc, List.append_assoc, List.singleton_append]
      have hm3 : m / 128 < 128 ^ (f' + 1) := by
        rw [Nat.div_lt_iff_lt_mul (by decide)]
        rw [Nat.pow_succ] at hm1
        exact hm1
      clear hc HCT hm1
      go_wp2_with (first | rw [hor] | (at_builtin; refine wpList_append_own _ rfl _ _ 50 rfl (b + 1) 5 i0 (.int .u8 0) 1 1 Tryz.underlying50 hi hz0 hz1 hz2 rfl (by decide) v cur.length (Lib.byteCells cur) rfl (hown.alloc _) ⟨wr.heap.size, 0, none⟩ 1 1 [.int .u8 (c : Int)] (by simp only [← hor]; rfl) rfl ?c1 ?c2 ?c3 ?c4 ?c5 ?_))
      case c1 =>
        intro j u hj
        match j, hj with
        | 0, hj => simp at hj; subst hj; simp [Addr.add]
      case c2 => intro u hu; simp at hu; subst hu; rfl
      case c3 => unfold maxLen; omega
      case c4 => omega
      case c5 => simp; omega
      intro v' w2 hown' hgrow _
      have hne : v.ownBlock ≠ some b := by
        intro e
        obtain ⟨h1, _⟩ := hown.lt _ e
        omega
      have hb2 : Own w2 b 93 #[v] := by
        have := hgrow.block b (by simp; omega) (fun e => hne e.symm)
        exact this.trans (HK.out.alloc _)
      have d0 : w2.cell? ⟨b, 0, none⟩ = some v := by rw [cell_of_row _ _ 0 _ _ _ hb2]; rfl
      have f1 : w2.frozen? ⟨b, 0, none⟩ = false := own_frozen hb2 0
      obtain ⟨ao, n', cap, rfl⟩ : ∃ ao n' cap, v' = .slice ao n' cap := by
        rcases hown'.2 with ⟨hv, _⟩ | ⟨g, cap, cur, hv, _⟩
        · exact ⟨_, _, _, hv⟩
        · exact ⟨_, _, _, hv⟩
      have kG : Keep (selW b) w w2 := (HKP.out.trans (keep_below ((Below.refl _ wr).alloc (Nat.le_refl _) _))).grown hgrow (row_bytesW hown b (fun k o hk ho => (Below.heap_alloc _ _ _ hk).trans ho))
      have HB2 := Lib.hid hb2
      have hcc : (UInt8.ofNat c).toNat = c := by rw [UInt8.toNat_ofNat']; omega
      have HO : Hid (w2.ownsRow (b + 1) 5 1 (.slice ao n' cap) (cur ++ [UInt8.ofNat c]).length (Lib.byteCells (cur ++ [UInt8.ofNat c]))) := by
        rw [Hid, ← bytes_append, List.length_append]
        have e : Lib.byteCells [UInt8.ofNat c] = [.int .u8 (c : Int)] := by
          simp only [Lib.byteCells, List.map_cons, List.map_nil, hcc]
        rw [e]
        exact hown'
      have HB : Hid (Below b w w2) := (HBL.out.alloc (by omega) _).grown hgrow (by simp; omega) (fun k hk => by have := (hown.lt k hk).1; omega)
      have HKG := Lib.hid kG
      clear hb2 hown' hgrow hne kG hcc
      have HYQ : Hid (Yq w b (cur ++ [UInt8.ofNat c]) (w2.setCell ⟨b, 0, none⟩ (.slice ao n' cap))) :=
        ⟨⟨_, heap_setCell_same w2 b 0 _ _ _ HB2.out, ownsRow_setCell_below HO.out (show b < b + 1 by omega) _⟩, HKG.out.setCell (p := ⟨b, 0, none⟩) _ HB2.out (fun hs => hs.1 rfl), HB.out.setCell (p := ⟨b, 0, none⟩) (Nat.le_refl b) _⟩
      clear HO HB HKG HB2
      go_wp2_with fail
      go_roundg (f' + 1)
      case measure => have := HM.out; omega
      case rel => exact ⟨f', m / 128, cur ++ [UInt8.ofNat c], by simp, hm3, by omega, by omega, rfl, HCT2.out, by simp; omega, HYQ.out⟩
    · have hbig2 : m ≤ 127 := by omega
      have HCT2 : Hid (txt ++ dgT n = cur ++ [UInt8.ofNat m]) := by rw [Hid, HCT.out, dg, if_pos hbig2]
      go_wp2_with (at_builtin; refine wpList_append_own _ rfl _ _ 50 rfl (b + 1) 5 i0 (.int .u8 0) 1 1 Tryz.underlying50 hi hz0 hz1 hz2 rfl (by decide) v cur.length (Lib.byteCells cur) rfl (hown.alloc _) ⟨wr.heap.size, 0, none⟩ 1 1 [.int .u8 (m : Int)] rfl rfl ?c1 ?c2 ?c3 ?c4 ?c5 ?_)
      case c2 => rfl
      case c3 => unfold maxLen; omega
      case c4 => omega
      case c5 => omega
      intro v' w2 hown' hgrow _
      have hne : v.ownBlock ≠ some b := by
        intro e
        obtain ⟨h1, _⟩ := hown.lt _ e
        omega
      have hb2 : Own w2 b 93 #[v] := by
        have := hgrow.block b (by simp; omega) (fun e => hne e.symm)
        exact this.trans (HK.out.alloc _)
      have d0 : w2.cell? ⟨b, 0, none⟩ = some v := by rw [cell_of_row _ _ 0 _ _ _ hb2]; rfl
      have f1 : w2.frozen? ⟨b, 0, none⟩ = false := own_frozen hb2 0
      obtain ⟨ao, n', cap, rfl⟩ : ∃ ao n' cap, v' = .slice ao n' cap := by
        rcases hown'.2 with ⟨hv, _⟩ | ⟨g, cap, cur, hv, _⟩
        · exact ⟨_, _, _, hv⟩
        · exact ⟨_, _, _, hv⟩
      have kG : Keep (selW b) w w2 := (HKP.out.trans (keep_below ((Below.refl _ wr).alloc (Nat.le_refl _) _))).grown hgrow (row_bytesW hown b (fun k o hk ho => (Below.heap_alloc _ _ _ hk).trans ho))
      have HB2 := Lib.hid hb2
      have hcc : (UInt8.ofNat m).toNat = m := by rw [UInt8.toNat_ofNat']; omega
      have HO : Hid (w2.ownsRow (b + 1) 5 1 (.slice ao n' cap) (cur ++ [UInt8.ofNat m]).length (Lib.byteCells (cur ++ [UInt8.ofNat m]))) := by
        rw [Hid, ← bytes_append, List.length_append]
        have e : Lib.byteCells [UInt8.ofNat m] = [.int .u8 (m : Int)] := by
          simp only [Lib.byteCells, List.map_cons, List.map_nil, hcc]
        rw [e]
        exact hown'
      have HB : Hid (Below b w w2) := (HBL.out.alloc (by omega) _).grown hgrow (by simp; omega) (fun k hk => by have := (hown.lt k hk).1; omega)
      have HKG := Lib.hid kG
      clear hb2 hown' hgrow hne kG hcc
      go_wp2
      exact bodyPost_end (results_none rfl _ _ _) rfl ⟨rfl, by
        rw [HCT2.out]
        exact ⟨⟨_, heap_setCell_same w2 b 0 _ _ _ HB2.out, ownsRow_setCell_below HO.out (show b < b + 1 by omega) _⟩, HKG.out.setCell (p := ⟨b, 0, none⟩) _ HB2.out (fun hs => hs.1 rfl), HB.out.setCell (p := ⟨b, 0, none⟩) (Nat.le_refl b) _⟩⟩
end Go.Proofs.YtgmcfinjlddgbaaGreatDoor

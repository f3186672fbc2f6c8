/- The proof, part 3: texts that belong together, in one. -/
import Derived.Test.YtikaflpiephaiaaGreatDoorRAB
import Derived.WalkSpells
import Derived.Laws.EntriesVeiled
import Derived.Outline
set_option maxRecDepth 100000
set_option maxHeartbeats 20000000
namespace Go.Proofs.YtikaflpiephaiaaGreatDoor
open Go.RowKit
set_option linter.unusedVariables false
theorem prefix_len {p l : List UInt8} (h : Lib.hasPrefix l p = true) : p.length ≤ l.length := by
 have h' : p.isPrefixOf l = true := h
 exact (List.isPrefixOf_iff_prefix.1 h').length_le
theorem ahead_le (l : List UInt8) : aheadN l ≤ l.length := by
 unfold aheadN
 split
 · rename_i h
   unfold longB at h
   simp only [Bool.or_eq_true] at h
   have key : ∀ k, k < 6 → Lib.hasPrefix l (longAt k).data.toList = true → 2 ≤ l.length := by
    intro k hk hp
    have h1 := prefix_len hp
    have h2 : (longAt k).data.toList.length = 2 := by
     have : k = 0 ∨ k = 1 ∨ k = 2 ∨ k = 3 ∨ k = 4 ∨ k = 5 := by omega
     rcases this with rfl | rfl | rfl | rfl | rfl | rfl <;> rfl
    omega
   rcases h with ((((h | h) | h) | h) | h) | h
   · exact key 0 (by omega) h
   · exact key 1 (by omega) h
   · exact key 2 (by omega) h
   · exact key 3 (by omega) h
   · exact key 4 (by omega) h
   · exact key 5 (by omega) h
 · unfold firstN
   split
   · exact Nat.zero_le _
   · split <;> simp
def signX (s : ByteArray) (p : Nat) : ByteArray := (s.extract p s.size).extract 0 (aheadN (bytesFrom s p))
def signR (s : ByteArray) (p : Nat) : Res := ⟨4, signX s p, 0, p, 0, 0⟩
theorem sign_at (b : Nat) (s : ByteArray) (p : Nat) (fa fr : Int) (w : World) (T : LTabs w) (hs62 : s.size ≤ 281474976710656) (hp : p < s.size) (hs : Sc w b s p fa fr) :
 Calls Tryz.prog 178 #[.pointer (some ⟨b, 0, none⟩)] w fun e w' => e = .returned (signR s p).val ∧ Below w.heap.size w w' := by
 have hlt := hs.lt
 obtain ⟨⟨c0, c1, c2, c3⟩, f1, f2, f3⟩ := hs.cells
 have HS := Lib.hid hs
 have HT := Lib.hid T
 clear hs T
 obtain ⟨V, hV⟩ : ∃ V, Hid (V = (signR s p).val) := ⟨_, rfl⟩
 rw [← hV.out]
 go_enter Tryz.func178, Tryz.ntmps178
 go_wp2
 go_quiet (fail)
 obtain ⟨X0, hX0⟩ : ∃ X0, Hid (X0 = s.extract p s.size) := ⟨_, rfl⟩
 rw [← hX0.out]
 have hz0 : X0.size ≤ 281474976710656 := by rw [hX0.out]; simp; omega
 obtain ⟨n, hn⟩ : ∃ n, Hid (n = aheadN (bytesFrom s p)) := ⟨_, rfl⟩
 have hl0 : X0.data.toList = bytesFrom s p := by rw [hX0.out]; exact tail_list s p
 have hnle : n ≤ X0.size := by
  have := ahead_le (bytesFrom s p)
  rw [← hn.out, ← hl0] at this
  simpa using this
 have H1 : Hid (∀ W : World, LTabs W → Calls Tryz.prog 220 #[.string X0] W fun e w' => e = .returned (.int .i64 n) ∧ W = w') := fun W TW => by
  have k := ahead_any X0 W TW
  rw [hl0, ← hn.out] at k
  exact k
 clear hl0
 go_wp2_with (go_at_call 220; refine (H1.out _ (HT.out.drew2 _ _ _)).mono ?_; rintro e w' ⟨rfl, rfl⟩)
 obtain ⟨X, hX⟩ : ∃ X, Hid (X = X0.extract 0 n) := ⟨_, rfl⟩
 rw [← hX.out]
 have hzX : X.size ≤ 281474976710656 := by rw [hX.out]; simp; omega
 have hres : Hid (V = .tuple #[.agg #[.int .u8 4, .string X, .int .i64 0, .int .i64 p], .agg #[.int .i64 0, .int .i64 0]]) := by
  rw [Hid, hV.out, show X = signX s p by rw [hX.out, hX0.out, hn.out]; rfl]; rfl
 clear hz0 hnle H1
 refine (token_lit b s X p fa fr 4 0 _ hzX (HS.out.drew2 _ _ _)).mono ?_
 rintro e w1 ⟨rfl, hb⟩
 obtain ⟨hA, hB, hz, hw⟩ := kept2 hb w tokZ faultZ rfl rfl rfl rfl
 obtain ⟨⟨a0, a1, a2, a3⟩, a4, a5, a6, a7⟩ := row4 hA
 obtain ⟨⟨b0, b1⟩, b2, b3⟩ := row2 hB
 clear hA hB hb
 go_wp2
 rw [hres.out]
 refine bodyPost_ret (v := .tuple #[.agg #[.int .u8 4, .string X, .int .i64 0, .int .i64 p], .agg #[.int .i64 0, .int .i64 0]]) (by simp [results, Tryz.results178, go_sem, a0, a1, a2, a3, b0, b1]) rfl ⟨rfl, stored6 hw _ _ _ _ _ _⟩
def numX (s : ByteArray) (p : Nat) : ByteArray := (s.extract p s.size).extract 0 (spanN digitB (bytesFrom s p))
def behindB (s : ByteArray) (p : Nat) : Bool := decide (p + spanN digitB (bytesFrom s p) < s.size) && letterB (PlainAid.bt s (p + spanN digitB (bytesFrom s p)))
def numC (s : ByteArray) (p n : Nat) (X : ByteArray) : Option Int → Res
 | none => ⟨0, ⟨#[]⟩, 0, 0, p, 3⟩
 | some v => if behindB s p = true then ⟨0, ⟨#[]⟩, 0, 0, p + (n : Nat), 4⟩ else ⟨3, X, v, p, 0, 0⟩
def numR (s : ByteArray) (p : Nat) : Res := numC s p (spanN digitB (bytesFrom s p)) (numX s p) (valueO (numX s p).data.toList)
theorem bt_extract (s : ByteArray) (p n : Nat) (h : p + n < s.size) : PlainAid.bt (s.extract p s.size) n = PlainAid.bt s (p + n) := by
 have h1 : n < (s.extract p s.size).size := by simp; omega
 have e1 := PlainAid.get_bt (s.extract p s.size) n h1
 have e2 := PlainAid.get_bt s (p + n) h
 rw [← e1, ← e2]
 rw [ByteArray.getElem_extract]
theorem number_any (b : Nat) (s : ByteArray) (p : Nat) (fa fr : Int) (w : World) (hs62 : s.size ≤ 281474976710656) (hp : p < s.size) (hs : Sc w b s p fa fr) :
 Calls Tryz.prog 176 #[.pointer (some ⟨b, 0, none⟩)] w fun e w' => e = .returned (numR s p).val ∧ Below w.heap.size w w' := by
 have hlt := hs.lt
 obtain ⟨⟨c0, c1, c2, c3⟩, f1, f2, f3⟩ := hs.cells
 have HS := Lib.hid hs
 clear hs
 obtain ⟨V, hV⟩ : ∃ V, Hid (V = (numR s p).val) := ⟨_, rfl⟩
 rw [← hV.out]
 go_enter Tryz.func176, Tryz.ntmps176
 go_wp2
 go_quiet (fail)
 obtain ⟨X0, hX0⟩ : ∃ X0, Hid (X0 = s.extract p s.size) := ⟨_, rfl⟩
 rw [← hX0.out]
 have hz0 : X0.size ≤ 281474976710656 := by rw [hX0.out]; simp; omega
 obtain ⟨n, hn⟩ : ∃ n, Hid (n = spanN digitB (bytesFrom s p)) := ⟨_, rfl⟩
 have hl0 : X0.data.toList = bytesFrom s p := by rw [hX0.out]; exact tail_list s p
 have hnle : n ≤ X0.size := by
  have := spanN_le digitB (bytesFrom s p)
  rw [← hn.out, ← hl0] at this
  simpa using this
 have H1 : Hid (∀ W : World, Calls Tryz.prog 130 #[.string X0, .func (.func 128) #[] #[]] W fun e w' => e = .returned (.int .i64 n) ∧ W = w') := fun W => by
  have k := span_digit X0 (by omega) W
  rw [hl0, ← hn.out] at k
  exact k
 clear hl0
 go_wp2_with (go_at_call 130; refine (H1.out _).mono ?_; rintro e w' ⟨rfl, rfl⟩)
 obtain ⟨X, hX⟩ : ∃ X, Hid (X = X0.extract 0 n) := ⟨_, rfl⟩
 rw [← hX.out]
 have hXn : Hid (X = numX s p) := by rw [Hid, hX.out, hX0.out, hn.out]; rfl
 have hzX : X.size ≤ 281474976710656 := by rw [hX.out]; simp; omega
 have hsz0 : X0.size = s.size - p := by rw [hX0.out]; simp
 obtain ⟨o, ho⟩ : ∃ o, Hid (o = valueO X.data.toList) := ⟨_, rfl⟩
 have H2 : Hid (∀ W : World, Calls Tryz.prog 218 #[.string X] W fun e w' => e = .returned (ValueV o) ∧ W = w') := fun W => by
  rw [ho.out]; exact value_any X (by omega) W
 have hnum : Hid (numR s p = numC s p n X o) := by
  have e : numR s p = numC s p (spanN digitB (bytesFrom s p)) (numX s p) (valueO (numX s p).data.toList) := rfl
  rw [Hid, e, ← hn.out, ← hXn.out, ← ho.out]
 cases o with
 | none =>
   have hres : Hid (V = .tuple #[.agg #[.int .u8 0, .string ⟨#[]⟩, .int .i64 0, .int .i64 0], .agg #[.int .i64 p, .int .i64 3]]) := by rw [Hid, hV.out, hnum.out]; rfl
   have H3 : Hid (∀ W : World, Calls Tryz.prog 218 #[.string X] W fun e w' => e = .returned (.tuple #[.int .i64 0, .bool false]) ∧ W = w') := H2
   clear H2 hsz0
   refine (H3.out _).mono ?_
   rintro e w' ⟨rfl, rfl⟩
   go_wp2
   go_region
   all_goals
    go_wp2
    rw [hres.out]
    refine bodyPost_ret (v := .tuple #[.agg #[.int .u8 0, .string ⟨#[]⟩, .int .i64 0, .int .i64 0], .agg #[.int .i64 p, .int .i64 3]]) (by simp [results, Tryz.results176, go_sem]) rfl ⟨rfl, stored6 (drew2 _) _ _ _ _ _ _⟩
 | some v =>
   have H3 : Hid (∀ W : World, Calls Tryz.prog 218 #[.string X] W fun e w' => e = .returned (.tuple #[.int .i64 v, .bool true]) ∧ W = w') := H2
   clear H2
   by_cases hlast : n < X0.size
   · obtain ⟨c, hc⟩ : ∃ c, Hid (c = PlainAid.bt X0 n) := ⟨_, rfl⟩
     have hbt : ∀ h : n < X0.size, ((X0[n]'h).toNat : Int) = c := fun h => by rw [hc.out]; exact PlainAid.get_bt X0 n h
     have hx0 : 0 ≤ c := by rw [hc.out]; exact PlainAid.bt_nonneg X0 n
     have hx1 : c ≤ 255 := by rw [hc.out]; exact PlainAid.bt_le X0 n
     obtain ⟨q, hq⟩ : ∃ q, Hid (q = letterB c) := ⟨_, rfl⟩
     have H4 : Hid (∀ W : World, Calls Tryz.prog 164 #[.int .u8 c] W fun e w' => e = .returned (.bool q) ∧ W = w') := fun W => by
      rw [hq.out]; exact letter_any c hx0 hx1 W
     have hbe : Hid (behindB s p = q) := by
      rw [Hid]; unfold behindB
      rw [← hn.out, b_t (show p + n < s.size by omega), hq.out, hc.out, hX0.out, bt_extract s p n (by omega)]
      rfl
     clear hsz0
     cases q
     · have hres : Hid (V = .tuple #[.agg #[.int .u8 3, .string X, .int .i64 v, .int .i64 p], .agg #[.int .i64 0, .int .i64 0]]) := by
        rw [Hid, hV.out, hnum.out]; unfold numC; simp only []; rw [if_neg (by rw [hbe.out]; decide)]; rfl
       refine (H3.out _).mono ?_
       rintro e w' ⟨rfl, rfl⟩
       go_wp2_with (first | (go_at_call 164; refine (H4.out _).mono ?_; rintro e w' ⟨rfl, rfl⟩))
       rw [← hX.out]
       refine (token_lit b s X p fa fr 3 v _ hzX (HS.out.drew2 _ _ _)).mono ?_
       rintro e w1 ⟨rfl, hb⟩
       obtain ⟨hA, hB, hz, hw⟩ := kept2 hb w tokZ faultZ rfl rfl rfl rfl
       obtain ⟨⟨a0, a1, a2, a3⟩, a4, a5, a6, a7⟩ := row4 hA
       obtain ⟨⟨b0, b1⟩, b2, b3⟩ := row2 hB
       clear hA hB hb
       go_wp2
       rw [hres.out]
       refine bodyPost_ret (v := .tuple #[.agg #[.int .u8 3, .string X, .int .i64 v, .int .i64 p], .agg #[.int .i64 0, .int .i64 0]]) (by simp [results, Tryz.results176, go_sem, a0, a1, a2, a3, b0, b1]) rfl ⟨rfl, stored6 hw _ _ _ _ _ _⟩
     · have hres : Hid (V = .tuple #[.agg #[.int .u8 0, .string ⟨#[]⟩, .int .i64 0, .int .i64 0], .agg #[.int .i64 (p + n), .int .i64 4]]) := by
        rw [Hid, hV.out, hnum.out]; unfold numC; simp only []; rw [if_pos hbe.out]; rfl
       have esum : IntKind.i64.wrap ((p : Int) + (n : Int)) = (p : Int) + (n : Int) := IntWalk.i64_in _ (by omega)
       refine (H3.out _).mono ?_
       rintro e w' ⟨rfl, rfl⟩
       go_wp2_with (first | (go_at_call 164; refine (H4.out _).mono ?_; rintro e w' ⟨rfl, rfl⟩))
       go_region
       all_goals
        go_wp2
        rw [hres.out]
        refine bodyPost_ret (v := .tuple #[.agg #[.int .u8 0, .string ⟨#[]⟩, .int .i64 0, .int .i64 0], .agg #[.int .i64 (p + n), .int .i64 4]]) (by simp [results, Tryz.results176, go_sem]) rfl ⟨rfl, stored6 (drew2 _) _ _ _ _ _ _⟩
   · have hbe : Hid (behindB s p = false) := by
      rw [Hid]; unfold behindB
      rw [← hn.out, b_f (show ¬ p + n < s.size by omega)]
      rfl
     have hres : Hid (V = .tuple #[.agg #[.int .u8 3, .string X, .int .i64 v, .int .i64 p], .agg #[.int .i64 0, .int .i64 0]]) := by
      rw [Hid, hV.out, hnum.out]; unfold numC; simp only []; rw [if_neg (by rw [hbe.out]; decide)]; rfl
     clear hsz0
     refine (H3.out _).mono ?_
     rintro e w' ⟨rfl, rfl⟩
     go_wp2_with fail
     rw [← hX.out]
     refine (token_lit b s X p fa fr 3 v _ hzX (HS.out.drew2 _ _ _)).mono ?_
     rintro e w1 ⟨rfl, hb⟩
     obtain ⟨hA, hB, hz, hw⟩ := kept2 hb w tokZ faultZ rfl rfl rfl rfl
     obtain ⟨⟨a0, a1, a2, a3⟩, a4, a5, a6, a7⟩ := row4 hA
     obtain ⟨⟨b0, b1⟩, b2, b3⟩ := row2 hB
     clear hA hB hb
     go_wp2
     rw [hres.out]
     refine bodyPost_ret (v := .tuple #[.agg #[.int .u8 3, .string X, .int .i64 v, .int .i64 p], .agg #[.int .i64 0, .int .i64 0]]) (by simp [results, Tryz.results176, go_sem, a0, a1, a2, a3, b0, b1]) rfl ⟨rfl, stored6 hw _ _ _ _ _ _⟩
open Go.RowKit
set_option linter.unusedVariables false
def famCells (b : Nat) : Array Value := #[.func (.func 164) #[] #[], .func (.func 175) #[.pointer (some ⟨b, 0, none⟩)] #[], .func (.func 128) #[] #[], .func (.func 176) #[.pointer (some ⟨b, 0, none⟩)] #[], .func (.func 177) #[] #[], .func (.func 178) #[.pointer (some ⟨b, 0, none⟩)] #[]]
theorem below_setRow {B : Nat} {a w : World} (h : Below B a w) {g : Nat} (hg : B ≤ g) (cs : Array Value) : Below B a (w.setRow g cs) :=
 h.trans ⟨rfl, rfl, rfl, by simp, fun k hk => by
  simp only [World.setRow, Array.getElem?_modify]
  rw [if_neg (by omega)]⟩
theorem families_any (b : Nat) (w : World) : Calls Tryz.prog 149 #[.pointer (some ⟨b, 0, none⟩)] w fun e w' => e = .returned (.agg (famCells b)) ∧ Below w.heap.size w w' := by
 go_enter Tryz.func149, Tryz.ntmps149
 go_wp2
 refine bodyPost_ret (v := .agg (famCells b)) (results_cell_row rfl _ _ w.heap.size 184 (famCells b) (0, 0) _ rfl (heap_alloc_new w _) Tryz.underlying184 rfl (by kernel_rfl)) rfl ?_
 exact ⟨rfl, (Below.refl _ _).alloc (Nat.le_refl _) _⟩
def nextR (s : ByteArray) (p : Nat) : Res :=
 if letterB (PlainAid.bt s p) = true then nameR s p
 else if digitB (PlainAid.bt s p) = true then numR s p
 else if signB (PlainAid.bt s p) = true then signR s p
 else ⟨0, ⟨#[]⟩, 0, 0, p, 1⟩
def pushes (h : Array Obj) : List Obj → Array Obj
 | [] => h
 | o :: r => pushes (h.push o) r
theorem pushes_size : ∀ (l : List Obj) (h : Array Obj), (pushes h l).size = h.size + l.length
 | [], h => rfl
 | o :: r, h => by simp only [pushes, pushes_size r, Array.size_push, List.length_cons]; omega
theorem pushes_old : ∀ (l : List Obj) (h : Array Obj) (k : Nat), k < h.size → (pushes h l)[k]? = h[k]?
 | [], h, k, _ => rfl
 | o :: r, h, k, hk => by
   simp only [pushes]
   rw [pushes_old r (h.push o) k (by simp; omega), Array.getElem?_push, if_neg (by omega)]
theorem pushes_new : ∀ (l : List Obj) (h : Array Obj) (i : Nat), i < l.length → (pushes h l)[h.size + i]? = l[i]?
 | [], h, i, hi => by simp at hi
 | o :: r, h, 0, _ => by
   simp only [pushes]
   rw [pushes_old r (h.push o) _ (by simp)]
   simp
 | o :: r, h, i + 1, hi => by
   simp only [pushes]
   have := pushes_new r (h.push o) i (by simpa using hi)
   rw [Array.size_push] at this
   rw [show h.size + (i + 1) = h.size + 1 + i by omega, this]
   simp
theorem keptN {W w1 : World} (hb : Below W.heap.size W w1) (w : World) (l : List Obj) (hW : W.heap = pushes w.heap l) (hos : W.os = w.os) (htape : W.tape = w.tape) (hout : W.output = w.output) :
 (∀ i, i < l.length → w1.heap[w.heap.size + i]? = l[i]?) ∧ w.heap.size + l.length ≤ w1.heap.size ∧ Below w.heap.size w w1 := by
 have hz : W.heap.size = w.heap.size + l.length := by rw [hW]; exact pushes_size _ _
 have hz1 := hb.size
 refine ⟨fun i hi => ?_, by omega, hb.os.trans hos, hb.tape.trans htape, hb.output.trans hout, by omega, fun k hk => ?_⟩
 · rw [hb.block _ (by omega), hW, pushes_new l _ i hi]
 · rw [hb.block k (by omega), hW, pushes_old l _ k hk]
theorem belowN {w W : World} (l : List Obj) (hW : W.heap = pushes w.heap l) (hos : W.os = w.os) (htape : W.tape = w.tape) (hout : W.output = w.output) : Below w.heap.size w W :=
 ⟨hos, htape, hout, by rw [hW, pushes_size]; omega, fun k hk => by rw [hW, pushes_old l _ k hk]⟩
theorem quiet_more {P : Program} {f : FuncId} {args : Array Value} {w : World} {a n : Nat} {v : Value} (h : Calls P f args (w.drewN (a + n)) fun e w' => e = .returned v ∧ w.drewN (a + n) = w') :
 Calls P f args (w.drewN (a + n)) fun e w'' => e = .returned v ∧ ∃ m, w'' = w.drewN (a + m) :=
 h.mono fun _ _ ⟨he, hm⟩ => ⟨he, n, hm.symm⟩
theorem quiet_one {P : Program} {f : FuncId} {args : Array Value} {w : World} {n : Nat} {v : Value} (h : Calls P f args (w.drewN n) fun e w' => e = .returned v ∧ w.drewN n = w') :
 Calls P f args (w.drewN n) fun e w'' => e = .returned v ∧ ∃ m, w'' = w.drewN m :=
 h.mono fun _ _ ⟨he, hm⟩ => ⟨he, n, hm.symm⟩
theorem stored6' {w w1 : World} {n : Nat} (hn : w.heap.size ≤ n) (hw : Below w.heap.size w w1) (u0 u1 u2 u3 v0 v1 : Value) : Below w.heap.size w ((((((w1.setCell ⟨n, 0, none⟩ u0).setCell ⟨n, 1, none⟩ u1).setCell ⟨n, 2, none⟩ u2).setCell ⟨n, 3, none⟩ u3).setCell ⟨n + 1, 0, none⟩ v0).setCell ⟨n + 1, 1, none⟩ v1) :=
 (((((hw.setCell (p := ⟨n, 0, none⟩) hn _).setCell (p := ⟨n, 1, none⟩) hn _).setCell (p := ⟨n, 2, none⟩) hn _).setCell (p := ⟨n, 3, none⟩) hn _).setCell (p := ⟨n + 1, 0, none⟩) (Nat.le_succ_of_le hn) _).setCell (p := ⟨n + 1, 1, none⟩) (Nat.le_succ_of_le hn) _
theorem next_0 (b : Nat) (s : ByteArray) (p : Nat) (fa fr : Int) (w : World) (T : LTabs w) (hs62 : s.size ≤ 281474976710656) (hp : p < s.size) (hs : Sc w b s p fa fr) (hN0 : letterB (PlainAid.bt s p) = true) :
 Calls Tryz.prog 151 #[.pointer (some ⟨b, 0, none⟩), .agg #[.func (.func 164) #[] #[], .func (.func 175) #[.pointer (some ⟨b, 0, none⟩)] #[], .func (.func 128) #[] #[], .func (.func 176) #[.pointer (some ⟨b, 0, none⟩)] #[], .func (.func 177) #[] #[], .func (.func 178) #[.pointer (some ⟨b, 0, none⟩)] #[]]] w fun e w' => e = .returned (Res.val (nameR s p)) ∧ Below w.heap.size w w' := by
 have hlt := hs.lt
 obtain ⟨⟨c0, c1, c2, c3⟩, f1, f2, f3⟩ := hs.cells
 have HS := Lib.hid hs
 have HT := Lib.hid T
 obtain ⟨c, hc⟩ : ∃ c, Hid (c = PlainAid.bt s p) := ⟨_, rfl⟩
 have hbt : ∀ h : p < s.size, ((s[p]'h).toNat : Int) = c := fun h => by rw [hc.out]; exact PlainAid.get_bt s p h
 have hx0 : 0 ≤ c := by rw [hc.out]; exact PlainAid.bt_nonneg s p
 have hx1 : c ≤ 255 := by rw [hc.out]; exact PlainAid.bt_le s p
 have H0 : Hid (∀ W : World, Calls Tryz.prog 164 #[.int .u8 c] W fun e w' => e = .returned (.bool true) ∧ W = w') := fun W => by
  have k := letter_any c hx0 hx1 W
  rw [hc.out, hN0] at k
  rw [hc.out]
  exact k
 have i0 : ∀ w, (Instr.index 184 (.agg #[.func (.func 164) #[] #[], .func (.func 175) #[.pointer (some ⟨b, 0, none⟩)] #[], .func (.func 128) #[] #[], .func (.func 176) #[.pointer (some ⟨b, 0, none⟩)] #[], .func (.func 177) #[] #[], .func (.func 178) #[.pointer (some ⟨b, 0, none⟩)] #[]]) (.int .i64 0)).run Tryz.prog w = .ok (.agg #[.func (.func 164) #[] #[], .func (.func 175) #[.pointer (some ⟨b, 0, none⟩)] #[]]) w := fun _ => by kernel_rfl
 have hany : ∀ W : World, Below w.heap.size w W → Calls Tryz.prog 175 #[.pointer (some ⟨b, 0, none⟩)] W fun e w1 => e = .returned (Res.val (nameR s p)) ∧ Below W.heap.size W w1 := fun W hb => name_any b s p fa fr W (HT.out.below (Nat.le_refl _) hb) hs62 hp (HS.out.below hb hlt)
 obtain ⟨r, hr⟩ : ∃ r, Hid (r = nameR s p) := ⟨_, rfl⟩
 rw [← hr.out] at hany ⊢
 obtain ⟨rk, rx, rw0, rp, ra, rr⟩ := r
 have HC : Hid (∀ W : World, Below w.heap.size w W → Calls Tryz.prog 175 #[.pointer (some ⟨b, 0, none⟩)] W fun e w1 => e = .returned (.tuple #[.agg #[.int .u8 rk, .string rx, .int .i64 rw0, .int .i64 rp], .agg #[.int .i64 ra, .int .i64 rr]]) ∧ Below W.heap.size W w1) := hany
 clear hany
 clear hs T hN0
 have l1 : b < w.heap.size + 1 := by omega
 have l2 : b < w.heap.size + 1 + 1 := by omega
 have l3 : b < w.heap.size + 1 + 1 + 1 := by omega
 have l4 : b < w.heap.size + 1 + 1 + 1 + 1 := by omega
 have l5 : b < w.heap.size + 1 + 1 + 1 + 1 + 1 := by omega
 go_enter Tryz.func151, Tryz.ntmps151
 go_wp2_with fail
 refine wp_loop_rounds 1 ?_
 rw [rounds_succ]
 go_wp2_with fail
 go_quiet ((go_at_call 164; first | (with_reducible exact quiet_one (H0.out _)) | (with_reducible exact quiet_more (H0.out _))))
 go_wp2_with fail
 refine (HC.out _ ?hbel).mono ?_
 case hbel => exact belowN (w := w) [_, tokZ, faultZ, _] (by rfl) (by rfl) (by rfl) (by rfl)
 rintro e w1 ⟨rfl, hb⟩
 obtain ⟨hk, hz, hw⟩ := keptN hb w [_, tokZ, faultZ, _] (by rfl) (by rfl) (by rfl) (by rfl)
 obtain ⟨⟨a0, a1, a2, a3⟩, a4, a5, a6, a7⟩ := row4 (show w1.heap[w.heap.size + 1]? = some tokZ from hk 1 (by simp))
 obtain ⟨⟨b0, b1⟩, b2, b3⟩ := row2 (show w1.heap[w.heap.size + 1 + 1]? = some faultZ from hk 2 (by simp))
 clear hk hb
 go_wp2
 refine bodyPost_ret (v := .tuple #[.agg #[.int .u8 rk, .string rx, .int .i64 rw0, .int .i64 rp], .agg #[.int .i64 ra, .int .i64 rr]]) (by simp [results, Tryz.results151, go_sem, a0, a1, a2, a3, b0, b1]) rfl ⟨rfl, stored6' (Nat.le_succ _) hw _ _ _ _ _ _⟩
theorem next_1 (b : Nat) (s : ByteArray) (p : Nat) (fa fr : Int) (w : World) (T : LTabs w) (hs62 : s.size ≤ 281474976710656) (hp : p < s.size) (hs : Sc w b s p fa fr) (hN0 : letterB (PlainAid.bt s p) = false) (hN1 : digitB (PlainAid.bt s p) = true) :
 Calls Tryz.prog 151 #[.pointer (some ⟨b, 0, none⟩), .agg #[.func (.func 164) #[] #[], .func (.func 175) #[.pointer (some ⟨b, 0, none⟩)] #[], .func (.func 128) #[] #[], .func (.func 176) #[.pointer (some ⟨b, 0, none⟩)] #[], .func (.func 177) #[] #[], .func (.func 178) #[.pointer (some ⟨b, 0, none⟩)] #[]]] w fun e w' => e = .returned (Res.val (numR s p)) ∧ Below w.heap.size w w' := by
 have hlt := hs.lt
 obtain ⟨⟨c0, c1, c2, c3⟩, f1, f2, f3⟩ := hs.cells
 have HS := Lib.hid hs
 have HT := Lib.hid T
 obtain ⟨c, hc⟩ : ∃ c, Hid (c = PlainAid.bt s p) := ⟨_, rfl⟩
 have hbt : ∀ h : p < s.size, ((s[p]'h).toNat : Int) = c := fun h => by rw [hc.out]; exact PlainAid.get_bt s p h
 have hx0 : 0 ≤ c := by rw [hc.out]; exact PlainAid.bt_nonneg s p
 have hx1 : c ≤ 255 := by rw [hc.out]; exact PlainAid.bt_le s p
 have H0 : Hid (∀ W : World, Calls Tryz.prog 164 #[.int .u8 c] W fun e w' => e = .returned (.bool false) ∧ W = w') := fun W => by
  have k := letter_any c hx0 hx1 W
  rw [hc.out, hN0] at k
  rw [hc.out]
  exact k
 have i0 : ∀ w, (Instr.index 184 (.agg #[.func (.func 164) #[] #[], .func (.func 175) #[.pointer (some ⟨b, 0, none⟩)] #[], .func (.func 128) #[] #[], .func (.func 176) #[.pointer (some ⟨b, 0, none⟩)] #[], .func (.func 177) #[] #[], .func (.func 178) #[.pointer (some ⟨b, 0, none⟩)] #[]]) (.int .i64 0)).run Tryz.prog w = .ok (.agg #[.func (.func 164) #[] #[], .func (.func 175) #[.pointer (some ⟨b, 0, none⟩)] #[]]) w := fun _ => by kernel_rfl
 have H1 : Hid (∀ W : World, Calls Tryz.prog 128 #[.int .u8 c] W fun e w' => e = .returned (.bool true) ∧ W = w') := fun W => by
  have k := digit_any c hx0 hx1 W
  rw [hc.out, hN1] at k
  rw [hc.out]
  exact k
 have i1 : ∀ w, (Instr.index 184 (.agg #[.func (.func 164) #[] #[], .func (.func 175) #[.pointer (some ⟨b, 0, none⟩)] #[], .func (.func 128) #[] #[], .func (.func 176) #[.pointer (some ⟨b, 0, none⟩)] #[], .func (.func 177) #[] #[], .func (.func 178) #[.pointer (some ⟨b, 0, none⟩)] #[]]) (.int .i64 1)).run Tryz.prog w = .ok (.agg #[.func (.func 128) #[] #[], .func (.func 176) #[.pointer (some ⟨b, 0, none⟩)] #[]]) w := fun _ => by kernel_rfl
 have hany : ∀ W : World, Below w.heap.size w W → Calls Tryz.prog 176 #[.pointer (some ⟨b, 0, none⟩)] W fun e w1 => e = .returned (Res.val (numR s p)) ∧ Below W.heap.size W w1 := fun W hb => number_any b s p fa fr W hs62 hp (HS.out.below hb hlt)
 obtain ⟨r, hr⟩ : ∃ r, Hid (r = numR s p) := ⟨_, rfl⟩
 rw [← hr.out] at hany ⊢
 obtain ⟨rk, rx, rw0, rp, ra, rr⟩ := r
 have HC : Hid (∀ W : World, Below w.heap.size w W → Calls Tryz.prog 176 #[.pointer (some ⟨b, 0, none⟩)] W fun e w1 => e = .returned (.tuple #[.agg #[.int .u8 rk, .string rx, .int .i64 rw0, .int .i64 rp], .agg #[.int .i64 ra, .int .i64 rr]]) ∧ Below W.heap.size W w1) := hany
 clear hany
 clear hs T hN0 hN1
 have l1 : b < w.heap.size + 1 := by omega
 have l2 : b < w.heap.size + 1 + 1 := by omega
 have l3 : b < w.heap.size + 1 + 1 + 1 := by omega
 have l4 : b < w.heap.size + 1 + 1 + 1 + 1 := by omega
 have l5 : b < w.heap.size + 1 + 1 + 1 + 1 + 1 := by omega
 go_enter Tryz.func151, Tryz.ntmps151
 go_wp2_with fail
 refine wp_loop_rounds 2 ?_
 rw [rounds_succ]
 go_wp2_with fail
 go_quiet ((go_at_call 164; first | (with_reducible exact quiet_one (H0.out _)) | (with_reducible exact quiet_more (H0.out _))))
 go_wp2_with fail
 rw [rounds_succ]
 go_wp2_with fail
 go_quiet ((go_at_call 128; first | (with_reducible exact quiet_one (H1.out _)) | (with_reducible exact quiet_more (H1.out _))))
 go_wp2_with fail
 refine (HC.out _ ?hbel).mono ?_
 case hbel => exact belowN (w := w) [_, tokZ, faultZ, _, _] (by rfl) (by rfl) (by rfl) (by rfl)
 rintro e w1 ⟨rfl, hb⟩
 obtain ⟨hk, hz, hw⟩ := keptN hb w [_, tokZ, faultZ, _, _] (by rfl) (by rfl) (by rfl) (by rfl)
 obtain ⟨⟨a0, a1, a2, a3⟩, a4, a5, a6, a7⟩ := row4 (show w1.heap[w.heap.size + 1]? = some tokZ from hk 1 (by simp))
 obtain ⟨⟨b0, b1⟩, b2, b3⟩ := row2 (show w1.heap[w.heap.size + 1 + 1]? = some faultZ from hk 2 (by simp))
 clear hk hb
 go_wp2
 refine bodyPost_ret (v := .tuple #[.agg #[.int .u8 rk, .string rx, .int .i64 rw0, .int .i64 rp], .agg #[.int .i64 ra, .int .i64 rr]]) (by simp [results, Tryz.results151, go_sem, a0, a1, a2, a3, b0, b1]) rfl ⟨rfl, stored6' (Nat.le_succ _) hw _ _ _ _ _ _⟩
theorem next_2 (b : Nat) (s : ByteArray) (p : Nat) (fa fr : Int) (w : World) (T : LTabs w) (hs62 : s.size ≤ 281474976710656) (hp : p < s.size) (hs : Sc w b s p fa fr) (hN0 : letterB (PlainAid.bt s p) = false) (hN1 : digitB (PlainAid.bt s p) = false) (hN2 : signB (PlainAid.bt s p) = true) :
 Calls Tryz.prog 151 #[.pointer (some ⟨b, 0, none⟩), .agg #[.func (.func 164) #[] #[], .func (.func 175) #[.pointer (some ⟨b, 0, none⟩)] #[], .func (.func 128) #[] #[], .func (.func 176) #[.pointer (some ⟨b, 0, none⟩)] #[], .func (.func 177) #[] #[], .func (.func 178) #[.pointer (some ⟨b, 0, none⟩)] #[]]] w fun e w' => e = .returned (Res.val (signR s p)) ∧ Below w.heap.size w w' := by
 have hlt := hs.lt
 obtain ⟨⟨c0, c1, c2, c3⟩, f1, f2, f3⟩ := hs.cells
 have HS := Lib.hid hs
 have HT := Lib.hid T
 obtain ⟨c, hc⟩ : ∃ c, Hid (c = PlainAid.bt s p) := ⟨_, rfl⟩
 have hbt : ∀ h : p < s.size, ((s[p]'h).toNat : Int) = c := fun h => by rw [hc.out]; exact PlainAid.get_bt s p h
 have hx0 : 0 ≤ c := by rw [hc.out]; exact PlainAid.bt_nonneg s p
 have hx1 : c ≤ 255 := by rw [hc.out]; exact PlainAid.bt_le s p
 have H0 : Hid (∀ W : World, Calls Tryz.prog 164 #[.int .u8 c] W fun e w' => e = .returned (.bool false) ∧ W = w') := fun W => by
  have k := letter_any c hx0 hx1 W
  rw [hc.out, hN0] at k
  rw [hc.out]
  exact k
 have i0 : ∀ w, (Instr.index 184 (.agg #[.func (.func 164) #[] #[], .func (.func 175) #[.pointer (some ⟨b, 0, none⟩)] #[], .func (.func 128) #[] #[], .func (.func 176) #[.pointer (some ⟨b, 0, none⟩)] #[], .func (.func 177) #[] #[], .func (.func 178) #[.pointer (some ⟨b, 0, none⟩)] #[]]) (.int .i64 0)).run Tryz.prog w = .ok (.agg #[.func (.func 164) #[] #[], .func (.func 175) #[.pointer (some ⟨b, 0, none⟩)] #[]]) w := fun _ => by kernel_rfl
 have H1 : Hid (∀ W : World, Calls Tryz.prog 128 #[.int .u8 c] W fun e w' => e = .returned (.bool false) ∧ W = w') := fun W => by
  have k := digit_any c hx0 hx1 W
  rw [hc.out, hN1] at k
  rw [hc.out]
  exact k
 have i1 : ∀ w, (Instr.index 184 (.agg #[.func (.func 164) #[] #[], .func (.func 175) #[.pointer (some ⟨b, 0, none⟩)] #[], .func (.func 128) #[] #[], .func (.func 176) #[.pointer (some ⟨b, 0, none⟩)] #[], .func (.func 177) #[] #[], .func (.func 178) #[.pointer (some ⟨b, 0, none⟩)] #[]]) (.int .i64 1)).run Tryz.prog w = .ok (.agg #[.func (.func 128) #[] #[], .func (.func 176) #[.pointer (some ⟨b, 0, none⟩)] #[]]) w := fun _ => by kernel_rfl
 have H2 : Hid (∀ W : World, Calls Tryz.prog 177 #[.int .u8 c] W fun e w' => e = .returned (.bool true) ∧ W = w') := fun W => by
  have k := sign_any c hx0 hx1 W
  rw [hc.out, hN2] at k
  rw [hc.out]
  exact k
 have i2 : ∀ w, (Instr.index 184 (.agg #[.func (.func 164) #[] #[], .func (.func 175) #[.pointer (some ⟨b, 0, none⟩)] #[], .func (.func 128) #[] #[], .func (.func 176) #[.pointer (some ⟨b, 0, none⟩)] #[], .func (.func 177) #[] #[], .func (.func 178) #[.pointer (some ⟨b, 0, none⟩)] #[]]) (.int .i64 2)).run Tryz.prog w = .ok (.agg #[.func (.func 177) #[] #[], .func (.func 178) #[.pointer (some ⟨b, 0, none⟩)] #[]]) w := fun _ => by kernel_rfl
 have hany : ∀ W : World, Below w.heap.size w W → Calls Tryz.prog 178 #[.pointer (some ⟨b, 0, none⟩)] W fun e w1 => e = .returned (Res.val (signR s p)) ∧ Below W.heap.size W w1 := fun W hb => sign_at b s p fa fr W (HT.out.below (Nat.le_refl _) hb) hs62 hp (HS.out.below hb hlt)
 obtain ⟨r, hr⟩ : ∃ r, Hid (r = signR s p) := ⟨_, rfl⟩
 rw [← hr.out] at hany ⊢
 obtain ⟨rk, rx, rw0, rp, ra, rr⟩ := r
 have HC : Hid (∀ W : World, Below w.heap.size w W → Calls Tryz.prog 178 #[.pointer (some ⟨b, 0, none⟩)] W fun e w1 => e = .returned (.tuple #[.agg #[.int .u8 rk, .string rx, .int .i64 rw0, .int .i64 rp], .agg #[.int .i64 ra, .int .i64 rr]]) ∧ Below W.heap.size W w1) := hany
 clear hany
 clear hs T hN0 hN1 hN2
 have l1 : b < w.heap.size + 1 := by omega
 have l2 : b < w.heap.size + 1 + 1 := by omega
 have l3 : b < w.heap.size + 1 + 1 + 1 := by omega
 have l4 : b < w.heap.size + 1 + 1 + 1 + 1 := by omega
 have l5 : b < w.heap.size + 1 + 1 + 1 + 1 + 1 := by omega
 go_enter Tryz.func151, Tryz.ntmps151
 go_wp2_with fail
 refine wp_loop_rounds 3 ?_
 rw [rounds_succ]
 go_wp2_with fail
 go_quiet ((go_at_call 164; first | (with_reducible exact quiet_one (H0.out _)) | (with_reducible exact quiet_more (H0.out _))))
 go_wp2_with fail
 rw [rounds_succ]
 go_wp2_with fail
 go_quiet ((go_at_call 128; first | (with_reducible exact quiet_one (H1.out _)) | (with_reducible exact quiet_more (H1.out _))))
 go_wp2_with fail
 rw [rounds_succ]
 go_wp2_with fail
 go_quiet ((go_at_call 177; first | (with_reducible exact quiet_one (H2.out _)) | (with_reducible exact quiet_more (H2.out _))))
 go_wp2_with fail
 refine (HC.out _ ?hbel).mono ?_
 case hbel => exact belowN (w := w) [_, tokZ, faultZ, _, _, _] (by rfl) (by rfl) (by rfl) (by rfl)
 rintro e w1 ⟨rfl, hb⟩
 obtain ⟨hk, hz, hw⟩ := keptN hb w [_, tokZ, faultZ, _, _, _] (by rfl) (by rfl) (by rfl) (by rfl)
 obtain ⟨⟨a0, a1, a2, a3⟩, a4, a5, a6, a7⟩ := row4 (show w1.heap[w.heap.size + 1]? = some tokZ from hk 1 (by simp))
 obtain ⟨⟨b0, b1⟩, b2, b3⟩ := row2 (show w1.heap[w.heap.size + 1 + 1]? = some faultZ from hk 2 (by simp))
 clear hk hb
 go_wp2
 refine bodyPost_ret (v := .tuple #[.agg #[.int .u8 rk, .string rx, .int .i64 rw0, .int .i64 rp], .agg #[.int .i64 ra, .int .i64 rr]]) (by simp [results, Tryz.results151, go_sem, a0, a1, a2, a3, b0, b1]) rfl ⟨rfl, stored6' (Nat.le_succ _) hw _ _ _ _ _ _⟩
theorem next_3 (b : Nat) (s : ByteArray) (p : Nat) (fa fr : Int) (w : World) (T : LTabs w) (hs62 : s.size ≤ 281474976710656) (hp : p < s.size) (hs : Sc w b s p fa fr) (hN0 : letterB (PlainAid.bt s p) = false) (hN1 : digitB (PlainAid.bt s p) = false) (hN2 : signB (PlainAid.bt s p) = false) :
 Calls Tryz.prog 151 #[.pointer (some ⟨b, 0, none⟩), .agg #[.func (.func 164) #[] #[], .func (.func 175) #[.pointer (some ⟨b, 0, none⟩)] #[], .func (.func 128) #[] #[], .func (.func 176) #[.pointer (some ⟨b, 0, none⟩)] #[], .func (.func 177) #[] #[], .func (.func 178) #[.pointer (some ⟨b, 0, none⟩)] #[]]] w fun e w' => e = .returned (Res.val (⟨0, ⟨#[]⟩, 0, 0, p, 1⟩ : Res)) ∧ Below w.heap.size w w' := by
 have hlt := hs.lt
 obtain ⟨⟨c0, c1, c2, c3⟩, f1, f2, f3⟩ := hs.cells
 have HS := Lib.hid hs
 have HT := Lib.hid T
 obtain ⟨c, hc⟩ : ∃ c, Hid (c = PlainAid.bt s p) := ⟨_, rfl⟩
 have hbt : ∀ h : p < s.size, ((s[p]'h).toNat : Int) = c := fun h => by rw [hc.out]; exact PlainAid.get_bt s p h
 have hx0 : 0 ≤ c := by rw [hc.out]; exact PlainAid.bt_nonneg s p
 have hx1 : c ≤ 255 := by rw [hc.out]; exact PlainAid.bt_le s p
 have H0 : Hid (∀ W : World, Calls Tryz.prog 164 #[.int .u8 c] W fun e w' => e = .returned (.bool false) ∧ W = w') := fun W => by
  have k := letter_any c hx0 hx1 W
  rw [hc.out, hN0] at k
  rw [hc.out]
  exact k
 have i0 : ∀ w, (Instr.index 184 (.agg #[.func (.func 164) #[] #[], .func (.func 175) #[.pointer (some ⟨b, 0, none⟩)] #[], .func (.func 128) #[] #[], .func (.func 176) #[.pointer (some ⟨b, 0, none⟩)] #[], .func (.func 177) #[] #[], .func (.func 178) #[.pointer (some ⟨b, 0, none⟩)] #[]]) (.int .i64 0)).run Tryz.prog w = .ok (.agg #[.func (.func 164) #[] #[], .func (.func 175) #[.pointer (some ⟨b, 0, none⟩)] #[]]) w := fun _ => by kernel_rfl
 have H1 : Hid (∀ W : World, Calls Tryz.prog 128 #[.int .u8 c] W fun e w' => e = .returned (.bool false) ∧ W = w') := fun W => by
  have k := digit_any c hx0 hx1 W
  rw [hc.out, hN1] at k
  rw [hc.out]
  exact k
 have i1 : ∀ w, (Instr.index 184 (.agg #[.func (.func 164) #[] #[], .func (.func 175) #[.pointer (some ⟨b, 0, none⟩)] #[], .func (.func 128) #[] #[], .func (.func 176) #[.pointer (some ⟨b, 0, none⟩)] #[], .func (.func 177) #[] #[], .func (.func 178) #[.pointer (some ⟨b, 0, none⟩)] #[]]) (.int .i64 1)).run Tryz.prog w = .ok (.agg #[.func (.func 128) #[] #[], .func (.func 176) #[.pointer (some ⟨b, 0, none⟩)] #[]]) w := fun _ => by kernel_rfl
 have H2 : Hid (∀ W : World, Calls Tryz.prog 177 #[.int .u8 c] W fun e w' => e = .returned (.bool false) ∧ W = w') := fun W => by
  have k := sign_any c hx0 hx1 W
  rw [hc.out, hN2] at k
  rw [hc.out]
  exact k
 have i2 : ∀ w, (Instr.index 184 (.agg #[.func (.func 164) #[] #[], .func (.func 175) #[.pointer (some ⟨b, 0, none⟩)] #[], .func (.func 128) #[] #[], .func (.func 176) #[.pointer (some ⟨b, 0, none⟩)] #[], .func (.func 177) #[] #[], .func (.func 178) #[.pointer (some ⟨b, 0, none⟩)] #[]]) (.int .i64 2)).run Tryz.prog w = .ok (.agg #[.func (.func 177) #[] #[], .func (.func 178) #[.pointer (some ⟨b, 0, none⟩)] #[]]) w := fun _ => by kernel_rfl
 clear hs T hN0 hN1 hN2
 have l1 : b < w.heap.size + 1 := by omega
 have l2 : b < w.heap.size + 1 + 1 := by omega
 have l3 : b < w.heap.size + 1 + 1 + 1 := by omega
 have l4 : b < w.heap.size + 1 + 1 + 1 + 1 := by omega
 have l5 : b < w.heap.size + 1 + 1 + 1 + 1 + 1 := by omega
 go_enter Tryz.func151, Tryz.ntmps151
 go_wp2_with fail
 refine wp_loop_rounds 4 ?_
 rw [rounds_succ]
 go_wp2_with fail
 go_quiet ((go_at_call 164; first | (with_reducible exact quiet_one (H0.out _)) | (with_reducible exact quiet_more (H0.out _))))
 go_wp2_with fail
 rw [rounds_succ]
 go_wp2_with fail
 go_quiet ((go_at_call 128; first | (with_reducible exact quiet_one (H1.out _)) | (with_reducible exact quiet_more (H1.out _))))
 go_wp2_with fail
 rw [rounds_succ]
 go_wp2_with fail
 go_quiet ((go_at_call 177; first | (with_reducible exact quiet_one (H2.out _)) | (with_reducible exact quiet_more (H2.out _))))
 go_wp2_with fail
 rw [rounds_succ]
 go_wp2_with fail
 go_region
 all_goals
  go_wp2
  refine bodyPost_ret (v := .tuple #[.agg #[.int .u8 0, .string ⟨#[]⟩, .int .i64 0, .int .i64 0], .agg #[.int .i64 p, .int .i64 1]]) (by simp [results, Tryz.results151, go_sem]) rfl ⟨rfl, stored6' (Nat.le_succ _) (by first | exact belowN [_, _, _, _, _, _] (by rfl) (by rfl) (by rfl) (by rfl)) _ _ _ _ _ _⟩
theorem next_any (b : Nat) (s : ByteArray) (p : Nat) (fa fr : Int) (w : World) (T : LTabs w) (hs62 : s.size ≤ 281474976710656) (hp : p < s.size) (hs : Sc w b s p fa fr) :
 Calls Tryz.prog 151 #[.pointer (some ⟨b, 0, none⟩), .agg (famCells b)] w fun e w' => e = .returned (nextR s p).val ∧ Below w.heap.size w w' := by
 unfold nextR
 by_cases h0 : letterB (PlainAid.bt s p) = true
 · rw [if_pos h0]; exact next_0 b s p fa fr w T hs62 hp hs h0
 · rw [if_neg h0]
   have g0 : letterB (PlainAid.bt s p) = false := by simpa using h0
   by_cases h1 : digitB (PlainAid.bt s p) = true
   · rw [if_pos h1]; exact next_1 b s p fa fr w T hs62 hp hs g0 h1
   · rw [if_neg h1]
     have g1 : digitB (PlainAid.bt s p) = false := by simpa using h1
     by_cases h2 : signB (PlainAid.bt s p) = true
     · rw [if_pos h2]; exact next_2 b s p fa fr w T hs62 hp hs g0 g1 h2
     · rw [if_neg h2]
       have g2 : signB (PlainAid.bt s p) = false := by simpa using h2
       exact next_3 b s p fa fr w T hs62 hp hs g0 g1 g2
end Go.Proofs.YtikaflpiephaiaaGreatDoor

/- The proof, part 45: texts that belong together, in one. -/
import Derived.Test.YtfogkobgjojpiaaGreatDoorQBR
import Derived.Test.YtfogkobgjojpiaaGreatDoorQBP
set_option maxRecDepth 100000
set_option maxHeartbeats 20000000
namespace Go.Proofs.YtfogkobgjojpiaaGreatDoor
set_option linter.unusedVariables false
section
variable {fnd : Bs → Int × Bool} {L : Int}
theorem expr_ok : ∀ n : Nat, (∀ d ts e r, opnd fnd L n d ts = .ok e r → okE e) ∧ (∀ v d ts e r, binE fnd L n v d ts = .ok e r → okE e) ∧ (∀ v d a ts e r, okE a → binL fnd L n v d a ts = .ok e r → okE e) := by
 intro n
 induction n with
 | zero => exact ⟨fun d ts e r h => by simp [opnd] at h, fun v d ts e r h => by simp [binE] at h, fun v d a ts e r _ h => by simp [binL] at h⟩
 | succ n ih =>
   obtain ⟨i1, i2, i3⟩ := ih
   refine ⟨fun d ts e r h => ?_, fun v d ts e r h => ?_, fun v d a ts e r ha h => ?_⟩
   · cases ts with
     | nil => simp [opnd] at h
     | cons t q =>
       simp only [opnd] at h
       split at h
       · cases h; exact ⟨by simp, trivial⟩
       split at h
       · cases h; exact ⟨by simp, trivial⟩
       split at h
       · split at h
         · cases h
         · obtain ⟨x, y, k1, k2⟩ := PR.then_eq_ok h
           cases k2
           exact ⟨by simp, i1 _ _ _ _ k1, trivial⟩
       split at h
       · split at h
         · cases h
         · obtain ⟨x, y, k1, k2⟩ := PR.then_eq_ok h
           cases k2
           exact ⟨by simp, i1 _ _ _ _ k1, trivial⟩
       split at h
       · split at h
         · cases h
         · obtain ⟨x, y, k1, k2⟩ := PR.then_eq_ok h
           obtain ⟨x2, y2, k3, k4⟩ := PR.then_eq_ok k2
           cases k4
           exact i2 _ _ _ _ _ k1
       · cases h
   · simp only [binE] at h
     obtain ⟨x, y, k1, k2⟩ := PR.then_eq_ok h
     exact i3 _ _ _ _ _ _ (i1 _ _ _ _ k1) k2
   · cases ts with
     | nil => simp only [binL] at h; cases h; exact ha
     | cons t q =>
       simp only [binL] at h
       split at h
       · obtain ⟨x, y, k1, k2⟩ := PR.then_eq_ok h
         exact i3 _ _ _ _ _ _ (show okE (.mk 4 _ _ _ [a, x] _) from ⟨by simp, ha, i2 _ _ _ _ _ k1, trivial⟩) k2
       · cases h; exact ha
end
theorem endP_ok {α : Type} {x : PR α} {a : α} {r : List Tk} (h : endP x = .ok a r) : x = .ok a [] := by
 unfold endP at h
 obtain ⟨b, s, h1, h2⟩ := PR.then_eq_ok h
 cases s with
 | nil => simp only at h2; cases h2; exact h1
 | cons t q => simp only at h2; cases h2
set_option linter.unusedVariables false
section
variable {fnd : Bs → Int × Bool} {L : Int}
theorem binE_ok {n : Nat} {v d : Int} {ts : List Tk} {e : Ex} {r : List Tk} (h : binE fnd L n v d ts = .ok e r) : okE e := (expr_ok n).2.1 _ _ _ _ _ h
theorem okEs_one {e : Ex} (h : okE e) : [e].length ≤ 9223372036854775807 ∧ okEs [e] := ⟨by simp, h, trivial⟩
theorem okEs_nil : ([] : List Ex).length ≤ 9223372036854775807 ∧ okEs [] := ⟨by simp, trivial⟩
theorem okSs_nil : ([] : List St).length ≤ 9223372036854775807 ∧ okSs [] := ⟨by simp, trivial⟩
theorem okSs_snoc : ∀ {l : List St} {s : St}, okSs l → okS s → okSs (l ++ [s])
 | [], s, _, hs => ⟨hs, trivial⟩
 | x :: r, s, h, hs => ⟨h.1, okSs_snoc h.2 hs⟩
theorem paren_ok {n : Nat} {ts : List Tk} {e : Ex} {r : List Tk} (h : parenP fnd L n ts = .ok e r) : okE e := by
 unfold parenP at h
 obtain ⟨u1, b1, h1, h2⟩ := PR.then_eq_ok h
 obtain ⟨u2, b2, h3, h4⟩ := PR.then_eq_ok h2
 obtain ⟨u3, b3, h5, h6⟩ := PR.then_eq_ok h4
 cases h6
 exact binE_ok h3
theorem change_ok {n : Nat} {t : Tk} {ts : List Tk} {s : St} {r : List Tk} (h : changeP fnd L n t ts = .ok s r) : okS s := by
 unfold changeP at h
 obtain ⟨u, b, h1, h2⟩ := PR.then_eq_ok h
 split at h2
 · obtain ⟨u1, b1, h3, h4⟩ := PR.then_eq_ok h2
   obtain ⟨u2, b2, h5, h6⟩ := PR.then_eq_ok h4
   obtain ⟨u3, b3, h7, h8⟩ := PR.then_eq_ok h6
   obtain ⟨u4, b4, h9, h10⟩ := PR.then_eq_ok h8
   obtain ⟨u5, b5, h11, h12⟩ := PR.then_eq_ok h10
   obtain ⟨u6, b6, h13, h14⟩ := PR.then_eq_ok h12
   cases h14
   exact ⟨okEs_one (binE_ok h9), okSs_nil, okSs_nil⟩
 · obtain ⟨u4, b4, h9, h10⟩ := PR.then_eq_ok h2
   obtain ⟨u5, b5, h11, h12⟩ := PR.then_eq_ok h10
   cases h12
   exact ⟨okEs_one (binE_ok h9), okSs_nil, okSs_nil⟩
theorem stmt_ok : ∀ n : Nat,
 (∀ d ts s r, stmtP fnd L n d ts = .ok s r → ts.length ≤ 65536 → okS s) ∧
 (∀ d acc ts l r, restP fnd L n d acc ts = .ok l r → ts.length ≤ 65536 → okSs acc → okSs l ∧ l.length + r.length ≤ acc.length + ts.length) := by
 intro n
 induction n with
 | zero => exact ⟨fun d ts s r h => by simp [stmtP] at h, fun d acc ts l r h => by simp [restP] at h⟩
 | succ n ih =>
   obtain ⟨i1, i2⟩ := ih
   refine ⟨fun d ts s r h hl => ?_, fun d acc ts l r h hl ha => ?_⟩
   · cases ts with
     | nil => simp [stmtP] at h
     | cons t q =>
       simp only [stmtP] at h
       rw [List.length_cons] at hl
       have blk : ∀ {d : Int} {ts : List Tk} {l : List St} {r : List Tk}, restP fnd L n d [] ts = .ok l r → ts.length ≤ 65536 → l.length ≤ 9223372036854775807 ∧ okSs l := fun h hl => by
        have := i2 _ _ _ _ _ h hl trivial
        exact ⟨by have := this.2; simp at this; omega, this.1⟩
       split at h
       · exact change_ok h
       split at h
       · obtain ⟨u1, b1, h1, h2⟩ := PR.then_eq_ok h
         obtain ⟨u2, b2, h3, h4⟩ := PR.then_eq_ok h2
         obtain ⟨u3, b3, h5, h6⟩ := PR.then_eq_ok h4
         have := paren_short h1
         have := open_short h3
         have := restP_short h5
         split at h6
         · rename_i hi
           have := isT_tail hi
           obtain ⟨u4, b4, h7, h8⟩ := PR.then_eq_ok h6
           obtain ⟨u5, b5, h9, h10⟩ := PR.then_eq_ok h8
           have := open_short h7
           cases h10
           exact ⟨okEs_one (paren_ok h1), blk h5 (by omega), blk h9 (by omega)⟩
         · cases h6
           exact ⟨okEs_one (paren_ok h1), blk h5 (by omega), okSs_nil⟩
       split at h
       · obtain ⟨u1, b1, h1, h2⟩ := PR.then_eq_ok h
         obtain ⟨u2, b2, h3, h4⟩ := PR.then_eq_ok h2
         obtain ⟨u3, b3, h5, h6⟩ := PR.then_eq_ok h4
         have := paren_short h1
         have := open_short h3
         cases h6
         exact ⟨okEs_one (paren_ok h1), blk h5 (by omega), okSs_nil⟩
       split at h
       · obtain ⟨u1, b1, h1, h2⟩ := PR.then_eq_ok h
         obtain ⟨u2, b2, h3, h4⟩ := PR.then_eq_ok h2
         obtain ⟨u3, b3, h5, h6⟩ := PR.then_eq_ok h4
         have := name_ok h1
         have := open_short h3
         cases h6
         exact ⟨okEs_nil, blk h5 (by omega), okSs_nil⟩
       split at h
       · obtain ⟨u1, b1, h1, h2⟩ := PR.then_eq_ok h
         obtain ⟨u2, b2, h3, h4⟩ := PR.then_eq_ok h2
         cases h4
         exact ⟨okEs_one (binE_ok h1), okSs_nil, okSs_nil⟩
       split at h
       · obtain ⟨u1, b1, h1, h2⟩ := PR.then_eq_ok h
         cases h2
         exact ⟨okEs_nil, okSs_nil, okSs_nil⟩
       · cases h
   · simp only [restP] at h
     split at h
     · rename_i hi
       cases h
       have := isT_tail hi
       exact ⟨ha, by omega⟩
     · obtain ⟨a, b, h1, h2⟩ := PR.then_eq_ok h
       have k1 := stmtP_short h1
       have k2 := i1 _ _ _ _ h1 hl
       have k3 := i2 _ _ _ _ _ h2 (by omega) (okSs_snoc ha k2)
       refine ⟨k3.1, ?_⟩
       have := k3.2
       rw [List.length_append, List.length_singleton] at this
       omega
theorem locals_ok : ∀ (n : Nat) (acc : List Dc) (ts : List Tk) (l : List Dc) (r : List Tk), localsP L n acc ts = .ok l r → l.length + r.length ≤ acc.length + ts.length
 | 0, acc, ts, l, r, h => by simp [localsP] at h
 | n + 1, acc, ts, l, r, h => by
   simp only [localsP] at h
   split at h
   · rename_i hi
     have := isT_tail hi
     obtain ⟨a, b, h1, h2⟩ := PR.then_eq_ok h
     have k1 := list_both (fun _ _ _ => nameP_short) h1
     have k2 := locals_ok n _ _ _ _ h2
     rw [List.length_append] at k2
     simp at k1
     omega
   · cases h; exact Nat.le_refl _
theorem thread_ok {n : Nat} {ts : List Tk} {t : Th} {r : List Tk} (h : threadP fnd L n ts = .ok t r) (hl : ts.length ≤ 65536) : okT t := by
 unfold threadP at h
 obtain ⟨u1, b1, h1, h2⟩ := PR.then_eq_ok h
 obtain ⟨u2, b2, h3, h4⟩ := PR.then_eq_ok h2
 obtain ⟨u3, b3, h5, h6⟩ := PR.then_eq_ok h4
 obtain ⟨u4, b4, h7, h8⟩ := PR.then_eq_ok h6
 cases h8
 have := name_ok h1
 have := open_short h3
 have k1 := locals_ok _ _ _ _ _ h5
 have k2 := (stmt_ok n).2 _ _ _ _ _ h7 (by simp at k1; omega) trivial
 simp at k1
 have k3 := k2.2
 simp at k3
 exact ⟨by show u3.length ≤ 9223372036854775807; omega, by show u4.length ≤ 9223372036854775807; omega, k2.1⟩
theorem threads_ok : ∀ (n : Nat) (acc : List Th) (ts : List Tk) (l : List Th) (r : List Tk), threadsP fnd L n acc ts = .ok l r → ts.length ≤ 65536 → (∀ t ∈ acc, okT t) → (∀ t ∈ l, okT t) ∧ l.length + r.length ≤ acc.length + ts.length
 | 0, acc, ts, l, r, h, _, _ => by simp [threadsP] at h
 | n + 1, acc, ts, l, r, h, hl, ha => by
   simp only [threadsP] at h
   split at h
   · rename_i hi
     have := isT_tail hi
     obtain ⟨a, b, h1, h2⟩ := PR.then_eq_ok h
     have k1 := thread_short h1
     have k2 := thread_ok h1 (by omega)
     have k3 := threads_ok n _ _ _ _ h2 (by omega) (fun t ht => by
      rcases List.mem_append.1 ht with ht | ht
      · exact ha t ht
      · rw [List.mem_singleton] at ht; rw [ht]; exact k2)
     refine ⟨k3.1, ?_⟩
     have := k3.2
     rw [List.length_append, List.length_singleton] at this
     omega
   · cases h; exact ⟨ha, Nat.le_refl _⟩
theorem decls_ok : ∀ (n : Nat) (p : Pg) (ts : List Tk) (q : Pg) (r : List Tk), declsP L n p ts = .ok q r → q.shared.length + q.locks.length + r.length ≤ p.shared.length + p.locks.length + ts.length
 | 0, p, ts, q, r, h => by simp [declsP] at h
 | n + 1, p, ts, q, r, h => by
   simp only [declsP] at h
   split at h
   · rename_i hi
     have := isT_tail hi
     obtain ⟨a, b, h1, h2⟩ := PR.then_eq_ok h
     have k1 := list_both (fun _ _ _ => firstP_short) h1
     have k2 := decls_ok n _ _ _ _ h2
     simp only [List.length_append] at k2
     simp at k1
     omega
   · split at h
     · rename_i hi
       have := isT_tail hi
       obtain ⟨a, b, h1, h2⟩ := PR.then_eq_ok h
       have k1 := list_both (fun _ _ _ => nameP_short) h1
       have k2 := decls_ok n _ _ _ _ h2
       simp only [List.length_append] at k2
       simp at k1
       omega
     · cases h; exact Nat.le_refl _
theorem prog_ok {n : Nat} {ts : List Tk} {p : Pg} {r : List Tk} (h : progP fnd L n ts = .ok p r) (hl : ts.length ≤ 65536) : okP p := by
 unfold progP at h
 obtain ⟨q, b, h1, h2⟩ := PR.then_eq_ok h
 obtain ⟨l, b2, h3, h4⟩ := PR.then_eq_ok h2
 cases h4
 have k1 := decls_ok _ _ _ _ _ h1
 simp at k1
 have k2 := threads_ok _ _ _ _ _ h3 (by omega) (fun t ht => by cases ht)
 have k3 := k2.2
 simp at k3
 exact ⟨by show q.shared.length ≤ 9223372036854775807; omega, by show q.locks.length ≤ 9223372036854775807; omega, by show l.length ≤ 9223372036854775807; omega, k2.1⟩
end
open Go.RowKit
set_option linter.unusedVariables false
def zP : Pg := ⟨[], [], []⟩
theorem okP_zero : okP zP := ⟨Nat.zero_le _, Nat.zero_le _, Nat.zero_le _, fun t ht => by cases ht⟩
theorem saidP_tree {s : ByteArray} {R : Option Pg × Int × Int × Int} (hR : said_P s = R) : okP (R.1.getD zP) := by
 obtain ⟨r1, a, b, c⟩ := R
 cases r1 with
 | none => exact okP_zero
 | some p =>
   unfold said_P wholeR at hR
   split at hR
   · cases hR
   · split at hR
     · cases hR
     · generalize hX : endP (progP fnd (s.size : Int) (fuel ((scanX s).1.map Res.tk)) ((scanX s).1.map Res.tk)) = X at hR
       cases X with
       | bad p q => cases hR
       | ok q r =>
         have hq : q = p := by simpa [endR] using congrArg Prod.fst hR
         subst hq
         exact prog_ok (endP_ok hX) (by rw [List.length_map]; exact scanX_len s)
theorem wh_treeP {w w' : World} {R : Option Pg × Int × Int × Int} {e : Ending} (h : WhPost w zPg pgR R e w') : Below w.heap.size w w' ∧ ∃ v, e = .returned (.tuple #[v, .int .i64 R.2.1, .agg #[.int .i64 R.2.2.1, .int .i64 R.2.2.2]]) ∧ pA w' (R.1.getD zP) v := by
 obtain ⟨r1, p, q, r⟩ := R
 obtain ⟨hb, v, he, hv⟩ := h
 refine ⟨hb, v, he, ?_⟩
 cases r1 with
 | none =>
   obtain rfl : v = .agg zPg := hv
   exact ⟨none, 0, none, 0, none, 0, rfl, .inl rfl, .inl rfl, .inl rfl⟩
 | some x => exact pA_of hv
theorem programs_walk (s : ByteArray) {w : World} (TT : LTabs w ∧ Tabs w) : Calls Tryz.prog 3 #[.string s] w fun e w' => e = .returned (.bool true) ∧ Below w.heap.size w w' := by
 obtain ⟨R, hR⟩ : ∃ R, R = said_P s := ⟨_, rfl⟩
 have hok := saidP_tree hR.symm
 have HP : Hid (∀ W, LTabs W → Tabs W → Calls Tryz.prog 7 #[.string s] W fun e w' => Below W.heap.size W w' ∧ ∃ v, e = .returned (.tuple #[v, .int .i64 R.2.1, .agg #[.int .i64 R.2.2.1, .int .i64 R.2.2.2]]) ∧ pA w' (R.1.getD zP) v) := fun W T TW => (p_Parse s T TW).mono fun e w' h => by rw [← hR] at h; exact wh_treeP h
 have HQ : Hid (∀ W, Calls Tryz.prog 8 #[.string s] W fun e w' => Below W.heap.size W w' ∧ ∃ v, e = .returned (.tuple #[v, .int .i64 R.2.1, .agg #[.int .i64 R.2.2.1, .int .i64 R.2.2.2]]) ∧ pA w' (R.1.getD zP) v) := fun W => (p_rParse s W).mono fun e w' h => by rw [← hR] at h; exact wh_treeP h
 clear hR
 obtain ⟨r1, y, p, q⟩ := R
 simp only at HP HQ hok
 generalize r1.getD zP = x at HP HQ hok
 have HT := Lib.hid TT
 have hyy : (y == y) = true := by simp
 have hpp : (p == p) = true := by simp
 have hqq : (q == q) = true := by simp
 have HEX : Hid (∀ W v u, pA W x v → pA W x u → Calls Tryz.prog 10 #[v, u] W fun e w' => e = .returned (.bool true) ∧ Below W.heap.size W w') := fun W v u h1 h2 => r_Exactly x hok h1 h2
 have HLV : Hid (∀ W, LTabs W ∧ Tabs W → Calls Tryz.prog 9 #[] W fun e w' => e = .returned (.bool true) ∧ Below W.heap.size W w') := fun W T => p_lives T.1 T.2
 clear TT hok
 go_enter Tryz.func3, Tryz.ntmps3
 go_wp2_with fail
 go_at_call 7
 refine (HP.out _ HT.out.1 HT.out.2).mono ?_
 rintro e w1 ⟨hb1, v1, rfl, hx1⟩
 obtain ⟨n1, n2, n3, hn1, hn2, hn3⟩ : ∃ n1 n2 n3, n1 = x.shared.length ∧ n2 = x.locks.length ∧ n3 = x.threads.length := ⟨_, _, _, rfl, rfl, rfl⟩
 have HN := Lib.hid (And.intro hn1 (And.intro hn2 hn3))
 have HX1 := Lib.hid hx1
 obtain ⟨a1, c1, a2, c2, a3, c3, rfl, _⟩ := hx1
 rw [← hn1, ← hn2, ← hn3] at HX1 ⊢
 clear hn1 hn2 hn3
 have Z1 := (Own.new w1 25 #[.slice none 0 0, .slice none 0 0, .slice none 0 0]).alloc (.cells #[.int .i64 0, .int .i64 0] 28)
 have Z2 := Own.new (w1.alloc (.cells #[.slice none 0 0, .slice none 0 0, .slice none 0 0] 25)) 28 #[.int .i64 0, .int .i64 0]
 rw [World.size_alloc] at Z2
 have Z2' := Z2.other (g := w1.heap.size) #[.slice a1 n1 c1, .slice a2 n2 c2, .slice a3 n3 c3] (by omega)
 have P1 := Lib.hid ((Z1.row #[.slice a1 n1 c1, .slice a2 n2 c2, .slice a3 n3 c3]).other (g := w1.heap.size + 1) #[.int .i64 p, .int .i64 q] (by omega))
 have F1 := Lib.hid (Z2'.row #[.int .i64 p, .int .i64 q])
 have B1 := Lib.hid (Below.of_row (Below.of_row (((Below.refl w1.heap.size w1).alloc (Nat.le_refl _) (.cells #[.slice none 0 0, .slice none 0 0, .slice none 0 0] 25)).alloc (by rw [World.size_alloc]; omega) (.cells #[.int .i64 0, .int .i64 0] 28)) (g := w1.heap.size) (Nat.le_refl _) #[.slice a1 n1 c1, .slice a2 n2 c2, .slice a3 n3 c3]) (g := w1.heap.size + 1) (by omega) #[.int .i64 p, .int .i64 q])
 have HX1 := Lib.hid (pA_below HX1.out B1.out)
 have HB1 := Lib.hid hb1
 clear hb1 Z2
 go_upto_region 2 with (first | (refine st rowPg rfl rfl Z1 rfl rfl (by rfl) (by rfl) (by kernel_rfl) ?_) | (refine st rowFl rfl rfl Z2' rfl rfl (by rfl) (by rfl) (by kernel_rfl) ?_))
 obtain ⟨W2, hW2⟩ : ∃ W, W = ((((w1.alloc (.cells #[.slice none 0 0, .slice none 0 0, .slice none 0 0] 25)).alloc (.cells #[.int .i64 0, .int .i64 0] 28)).setRow w1.heap.size #[.slice a1 n1 c1, .slice a2 n2 c2, .slice a3 n3 c3]).setRow (w1.heap.size + 1) #[.int .i64 p, .int .i64 q]) := ⟨_, rfl⟩
 rw [← hW2] at P1 F1 B1 HX1 ⊢
 clear hW2 Z1 Z2'
 have T2 : Hid (LTabs W2 ∧ Tabs W2) := ⟨(HT.out.1.below (Nat.le_refl _) HB1.out).below (Nat.le_refl _) B1.out, (HT.out.2.below (Nat.le_refl _) HB1.out).below (Nat.le_refl _) B1.out⟩
 have B2 := Lib.hid (HB1.out.trans (B1.out.mono HB1.out.size))
 clear HB1 B1
 go_wp2_with fail
 go_at_call 8
 refine (HQ.out _).mono ?_
 rintro e w3 ⟨hb3, v2, rfl, hx2⟩
 have HX2 := Lib.hid hx2
 obtain ⟨b1, d1, b2, d2, b3, d3, rfl, _⟩ := hx2
 rw [← HN.out.1, ← HN.out.2.1, ← HN.out.2.2] at HX2 ⊢
 have P1 := P1.out.below hb3
 have F1 := F1.out.below hb3
 have l1 := P1.lt
 have l2 := F1.lt
 have Z1 := (Own.new w3 25 #[.slice none 0 0, .slice none 0 0, .slice none 0 0]).alloc (.cells #[.int .i64 0, .int .i64 0] 28)
 have Z2 := Own.new (w3.alloc (.cells #[.slice none 0 0, .slice none 0 0, .slice none 0 0] 25)) 28 #[.int .i64 0, .int .i64 0]
 rw [World.size_alloc] at Z2
 have Z2' := Z2.other (g := w3.heap.size) #[.slice b1 n1 d1, .slice b2 n2 d2, .slice b3 n3 d3] (by omega)
 have P2 := Lib.hid ((Z1.row #[.slice b1 n1 d1, .slice b2 n2 d2, .slice b3 n3 d3]).other (g := w3.heap.size + 1) #[.int .i64 p, .int .i64 q] (by omega))
 have F2 := Lib.hid (Z2'.row #[.int .i64 p, .int .i64 q])
 have B3 := Lib.hid (Below.of_row (Below.of_row (((Below.refl w3.heap.size w3).alloc (Nat.le_refl _) (.cells #[.slice none 0 0, .slice none 0 0, .slice none 0 0] 25)).alloc (by rw [World.size_alloc]; omega) (.cells #[.int .i64 0, .int .i64 0] 28)) (g := w3.heap.size) (Nat.le_refl _) #[.slice b1 n1 d1, .slice b2 n2 d2, .slice b3 n3 d3]) (g := w3.heap.size + 1) (by omega) #[.int .i64 p, .int .i64 q])
 have P1 := Lib.hid (P1.below B3.out)
 have F1 := Lib.hid (F1.below B3.out)
 have HX2 := Lib.hid (pA_below HX2.out B3.out)
 have HX1 := Lib.hid (pA_below (pA_below HX1.out hb3) B3.out)
 have T4 : Hid (LTabs _ ∧ Tabs _) := ⟨(T2.out.1.below (Nat.le_refl _) hb3).below (Nat.le_refl _) B3.out, (T2.out.2.below (Nat.le_refl _) hb3).below (Nat.le_refl _) B3.out⟩
 have B4 := Lib.hid (B2.out.trans ((hb3.trans (B3.out.mono hb3.size)).mono B2.out.size))
 clear hb3 Z2 l1 l2
 go_upto_region 3 with (first | (refine st rowPg rfl rfl Z1 rfl rfl (by rfl) (by rfl) (by kernel_rfl) ?_) | (refine st rowFl rfl rfl Z2' rfl rfl (by rfl) (by rfl) (by kernel_rfl) ?_))
 obtain ⟨W4, hW4⟩ : ∃ W, W = ((((w3.alloc (.cells #[.slice none 0 0, .slice none 0 0, .slice none 0 0] 25)).alloc (.cells #[.int .i64 0, .int .i64 0] 28)).setRow w3.heap.size #[.slice b1 n1 d1, .slice b2 n2 d2, .slice b3 n3 d3]).setRow (w3.heap.size + 1) #[.int .i64 p, .int .i64 q]) := ⟨_, rfl⟩
 rw [← hW4] at P1 F1 P2 F2 B4 HX1 HX2 T4 ⊢
 clear hW4 Z1 Z2'
 go_wp2_with fail
 go_at_call 9
 refine (HLV.out _ T4.out).mono ?_
 rintro e w5 ⟨rfl, hb⟩
 have P1 := Lib.hid (P1.out.below hb)
 have F1 := Lib.hid (F1.out.below hb)
 have P2 := Lib.hid (P2.out.below hb)
 have F2 := Lib.hid (F2.out.below hb)
 have HX1 := Lib.hid (pA_below HX1.out hb)
 have HX2 := Lib.hid (pA_below HX2.out hb)
 have B5 := Lib.hid (B4.out.trans (hb.mono B4.out.size))
 obtain ⟨⟨e0, e1, e2⟩, _⟩ := row3 P1.out
 obtain ⟨⟨g0, g1, g2⟩, _⟩ := row3 P2.out
 clear hb
 go_wp2_with fail
 go_at_call 10
 refine (HEX.out _ _ _ HX1.out HX2.out).mono ?_
 rintro e w6 ⟨rfl, hb⟩
 have F1 := Lib.hid (F1.out.below hb)
 have F2 := Lib.hid (F2.out.below hb)
 have B6 := Lib.hid (B5.out.trans (hb.mono B5.out.size))
 clear e0 e1 e2 g0 g1 g2 hb
 obtain ⟨⟨g0, g1⟩, _⟩ := row2 F1.out
 obtain ⟨⟨h0, h1⟩, _⟩ := row2 F2.out
 go_wp2_with fail
 go_ret
 exact ⟨rfl, B6.out⟩
open Go.ChangeShapes Go.WideShapes Go.ChangeAt Go.WideMaps Go.WideElems Go.RowKit
set_option linter.unusedVariables false
abbrev PL : List (String × DataW Unit) := [("stile/words.levels", Rows.laid_stile_words_levels), ("stile/words.signs", Rows.laid_stile_words_signs), ("stile/lexer.languageWords", Rows.laid_stile_lexer_languageWords), ("stile/lexer.longSigns", Rows.laid_stile_lexer_longSigns)]
theorem both_of_laid {W : World} (h : laidMetH Tryz.prog PL W) : LTabs W ∧ Tabs W := by
 rw [MakeChecks.laidMetH_plain _ _ _ (by kernel_rfl)] at h
 obtain ⟨ps, h, _⟩ := h
 exact ⟨ltabs_of_vars h (by simp) (by simp), tabs_of_vars h (by simp) (by simp)⟩
theorem pdoor_met (os : Os) (args : Array Value) : laidMetH Tryz.prog PL ((World.doorLaid Tryz.prog 400 os).forCall (fun _ _ => 0) ⟨#[], args, []⟩).memory :=
 laidMetH_of_parts3 (fuel := 8) (laidMet_of_run' 8 (by kernel_rfl) (by kernel_rfl)) (by kernel_rfl) (by kernel_rfl)
end Go.Proofs.YtfogkobgjojpiaaGreatDoor

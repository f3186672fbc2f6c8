/- The proof, part 39: texts that belong together, in one. -/
import Derived.Test.YtfogkobgjojpiaaGreatDoorQBL
import Derived.Test.YtfogkobgjojpiaaGreatDoorQAV
set_option maxRecDepth 100000
set_option maxHeartbeats 20000000
namespace Go.Proofs.YtfogkobgjojpiaaGreatDoor
open Go.RowKit
set_option linter.unusedVariables false
structure TO (w0 : World) (N : Nat) (vS vL vT : Value) (l : List Th) (xs : List Value) (W : World) : Prop where
 ge : w0.heap.size + 1 < N
 pb : Own W w0.heap.size 25 #[vS, vL, vT]
 rb : Own W (w0.heap.size + 1) 25 zPg
 row : W.ownsRow w0.heap.size 64 4 vT l.length xs
 lt : ∀ b, vT.ownBlock = some b → b < N
 ths : thsV (fun b => w0.heap.size + 1 < b ∧ vT.ownBlock ≠ some b ∧ b < N) W l xs
section
variable {c : Par} {w0 W W' : World} {N : Nat} {vS vL vT : Value} {l : List Th} {xs : List Value}
theorem TO.fr (h : TO w0 N vS vL vT l xs W) (hf : Fr c W W') (hX : c.X < w0.heap.size) : TO w0 N vS vL vT l xs W' :=
 ⟨h.ge, h.pb.fr hf (by omega), h.rb.fr hf (by omega), row_fr h.row hf hX, h.lt, thsV_stays (stays_fr hf (fun b hb => by have := hb.1; omega)) (fun b hb => hb) h.ths⟩
theorem TO.alloc (h : TO w0 N vS vL vT l xs W) (o : Obj) : TO w0 N vS vL vT l xs (W.alloc o) :=
 ⟨h.ge, h.pb.alloc o, h.rb.alloc o, h.row.alloc o, h.lt, thsV_stays (stays_alloc _ _ o) (fun b hb => hb) h.ths⟩
theorem TO.drew (h : TO w0 N vS vL vT l xs W) : TO w0 N vS vL vT l xs W.drew :=
 have st : Stays (fun b => w0.heap.size + 1 < b ∧ vT.ownBlock ≠ some b ∧ b < N) W W.drew := fun _ _ _ _ h => h
 ⟨h.ge, h.pb, h.rb, h.row, h.lt, thsV_stays st (fun b hb => hb) h.ths⟩
theorem TO.drewN (h : TO w0 N vS vL vT l xs W) (n : Nat) : TO w0 N vS vL vT l xs (W.drewN n) :=
 have st : Stays (fun b => w0.heap.size + 1 < b ∧ vT.ownBlock ≠ some b ∧ b < N) W (W.drewN n) := fun _ _ _ _ h => h
 ⟨h.ge, h.pb, h.rb, h.row, h.lt, thsV_stays st (fun b hb => hb) h.ths⟩
theorem TO.setRow (h : TO w0 N vS vL vT l xs W) {g : Nat} (hg : N ≤ g) (cs : Array Value) : TO w0 N vS vL vT l xs (W.setRow g cs) :=
 ⟨h.ge, h.pb.other cs (by have := h.ge; omega), h.rb.other cs (by have := h.ge; omega), row_row h.row cs (fun e => by have := h.lt _ e; omega), h.lt, thsV_stays (stays_row _ cs (fun b hb => by have := hb.2.2; omega)) (fun b hb => hb) h.ths⟩
theorem TO.grown (h : TO w0 N vS vL vT l xs W) {row : Option Nat} (hg : W.grownBy W' row) (hr : ∀ r, row = some r → N ≤ r) : TO w0 N vS vL vT l xs W' :=
 ⟨h.ge, own_grown h.pb hg (fun e => by have := hr _ e; have := h.ge; omega), own_grown h.rb hg (fun e => by have := hr _ e; have := h.ge; omega),
  h.row.kept hg (by
   cases hv : vT.ownBlock with
   | none => exact .inl rfl
   | some b => exact .inr (fun e => by have := hr b e.symm; have := h.lt b hv; omega)), h.lt,
  thsV_stays (stays_grown hg (fun b hb e => by have := hr b e; have := hb.2.2; omega)) (fun b hb => hb) h.ths⟩
theorem TO.more (h : TO w0 N vS vL vT l xs W) {N' : Nat} (hn : N ≤ N') : TO w0 N' vS vL vT l xs W :=
 ⟨by have := h.ge; omega, h.pb, h.rb, h.row, fun b e => by have := h.lt b e; omega, thsV_stays (Stays.refl _ _) (fun b hb => ⟨hb.1, hb.2.1, by have := hb.2.2; omega⟩) h.ths⟩
end
theorem As.head {c : Par} {w W : World} {σ : Sr} (A : As c w W σ) (S : RkS c w) : ∃ k : Nat, W.cell? ⟨c.X, 0, none⟩ = some (.slice c.ta c.toks.length c.cap) ∧ W.cell? ⟨c.X, 1, none⟩ = some (.int .i64 (k : Int)) ∧ k ≤ c.toks.length ∧ c.toks.length ≤ 65536 ∧ σ.ts.length = c.toks.length - k := by
 obtain ⟨k, A, h⟩ := A
 obtain ⟨⟨x0, x1, _⟩, f⟩ := A.cells
 exact ⟨k, x0, x1, A.le, by have := S.small.1; omega, by rw [h, Par.at_len]⟩
theorem locals_len {L : Int} : ∀ (n : Nat) (acc : List Dc) (σ : Sr), (localsM L n acc σ).2.ok = true → σ.ok = true ∧ (localsM L n acc σ).2.ts.length ≤ σ.ts.length
 | 0, acc, σ, h => ⟨h, Nat.le_refl _⟩
 | n + 1, acc, σ, h => by
   simp only [localsM] at h ⊢
   by_cases hc : σ.has L [108, 111, 99, 97, 108] = true
   · rw [if_pos hc] at h ⊢
     obtain ⟨k1, k2, k3⟩ := step_len hc
     obtain ⟨h1, h2⟩ := locals_len n _ _ h
     obtain ⟨h3, h4⟩ := (listM_len (L := L) name_one).1 h1
     exact ⟨k1, by omega⟩
   · rw [if_neg hc] at h ⊢
     exact ⟨h, Nat.le_refl _⟩
theorem thread_len {L : Int} {n : Nat} {σ : Sr} (h : (threadM L n σ).2.ok = true) : σ.ok = true ∧ (threadM L n σ).2.ts.length + 2 ≤ σ.ts.length := by
 unfold threadM at h ⊢
 simp only at h ⊢
 obtain ⟨h1, h2⟩ := stsM_len h
 obtain ⟨h3, h4⟩ := locals_len _ _ _ h1
 obtain ⟨h5, h6⟩ := want_len h3
 obtain ⟨h7, h8⟩ := name_len h5
 exact ⟨h7, by omega⟩
def TsI (c : Par) (w : World) (vS vL : Value) (Y : List Th × Sr) (m : Nat) (W : World) : Prop :=
 ∃ (σ : Sr) (l : List Th) (vT : Value) (xs : List Value), As c w W σ ∧ TO w W.heap.size vS vL vT l xs W ∧ threadsM c.L m l σ = Y ∧ (σ.ok = true → 3 * σ.ts.length + 2 ≤ m) ∧ (σ.ok = true → l.length + σ.ts.length ≤ 65536)
def LcI (c : Par) (w : World) (TB : Nat) (nm : ByteArray) (p : Int) (vS vL vT : Value) (l : List Th) (xs : List Value) (Z : List Dc × Sr) (m : Nat) (W : World) : Prop :=
 ∃ (σ : Sr) (lo : List Dc) (vD : Value), As c w W σ ∧ Own W TB 64 #[.string nm, vD, .slice none 0 0, .int .i64 p] ∧ W.ownsRow TB 66 3 vD lo.length (dcsL lo) ∧ TO w TB vS vL vT l xs W ∧ localsM c.L m lo σ = Z ∧ (σ.ok = true → σ.ts.length < m) ∧ (σ.ok = true → lo.length + σ.ts.length ≤ 65536)
def ptR (n : Nat) (vS vL : Value) (l : List Th) (v : Value) (W : World) : Prop := ∃ a3 c3, v = .agg #[vS, vL, .slice a3 l.length c3] ∧ thsAt (fun b => n ≤ b) W l a3
theorem r_threads {c : Par} {w : World} {σ : Sr} {n : Nat} {a1 a2 : Option Addr} {n1 n2 c1 c2 : Nat} (R : Rs c w σ) (hn : σ.ok = true → 3 * σ.ts.length + 2 ≤ n) :
 Calls Tryz.prog 72 #[c.ptr, .agg #[.slice a1 n1 c1, .slice a2 n2 c2, .slice none 0 0]] w (RsPost c w (threadsM c.L n [] σ) (ptR w.heap.size (.slice a1 n1 c1) (.slice a2 n2 c2))) := by
 have hsm : σ.ts.length ≤ 65536 := by obtain ⟨k, R, h⟩ := R; rw [h, Par.at_len]; have := R.s.small.1; omega
 have HW : Hid (∀ W σ (s : ByteArray), Rs c W σ → Calls Tryz.prog 123 #[c.ptr, .string s] W fun e w' => e = .returned (.tuple #[]) ∧ Fr c W w' ∧ Rs c w' (σ.want c.L s.data.toList)) := fun W σ s R => r_want R s
 have HTK : Hid (∀ W σ, Rs c W σ → Calls Tryz.prog 69 #[c.ptr, .string ⟨#[108, 111, 99, 97, 108]⟩] W fun e w' => e = .returned (.bool (σ.has c.L [108, 111, 99, 97, 108])) ∧ Fr c W w' ∧ Rs c w' (σ.take c.L [108, 111, 99, 97, 108])) := fun W σ R => r_take R ⟨#[108, 111, 99, 97, 108]⟩
 have HNM : Hid (∀ W σ, Rs c W σ → Calls Tryz.prog 120 #[c.ptr] W fun e w' => Fr c W w' ∧ e = .returned (.tuple #[.string (nameM c.L σ).1.name, .int .i64 (nameM c.L σ).1.pos]) ∧ Rs c w' (nameM c.L σ).2) := fun W σ R => r_name R
 have HNS : Hid (∀ W σ m, Rs c W σ → (σ.ok = true → σ.ts.length < m) → Calls Tryz.prog 71 #[c.ptr] W (RsPost c W (listM c.L (nameM c.L) m [] σ) (dcsW W.heap.size))) := fun W σ m R h => r_names R h
 have HST : Hid (∀ W σ m, Rs c W σ → (σ.ok = true → 3 * σ.ts.length + 2 ≤ m) → Calls Tryz.prog 124 #[c.ptr, .int .i64 1] W (RsPost c W (stsM c.L m 1 [] σ) (fun l v W' => stsVal W.heap.size l v W'))) := fun W σ m R h => stmts_all m c W σ 1 R (by decide) (by decide) (fun _ => by decide) h
 have HOQ : Hid (∀ W σ n, Rs c W σ → Calls Tryz.prog 29 #[c.ptr] (W.drewN n) fun e w' => e = .returned (.bool σ.ok) ∧ w' = W.drewN n) := fun W σ n R => r_ok_same (R.drewN n)
 have HS := Lib.hid R.s
 have hX := Lib.hid R.lt
 obtain ⟨Y, hY⟩ : ∃ Y, Y = threadsM c.L n [] σ := ⟨_, rfl⟩
 rw [← hY]
 obtain ⟨vS, hvS⟩ : ∃ v, v = Value.slice a1 n1 c1 := ⟨_, rfl⟩
 obtain ⟨vL, hvL⟩ : ∃ v, v = Value.slice a2 n2 c2 := ⟨_, rfl⟩
 have B0 : Hid (TsI c w (.slice a1 n1 c1) (.slice a2 n2 c2) Y n ((w.alloc (.cells #[.slice a1 n1 c1, .slice a2 n2 c2, .slice none 0 0] 25)).alloc (.cells zPg 25)) ∧ n ≤ n) := by
  have o1 := (Own.new w 25 #[.slice a1 n1 c1, .slice a2 n2 c2, .slice none 0 0]).alloc (.cells zPg 25)
  have o2 := Own.new (w.alloc (.cells #[.slice a1 n1 c1, .slice a2 n2 c2, .slice none 0 0] 25)) 25 zPg
  rw [World.size_alloc] at o2
  exact ⟨⟨σ, [], .slice none 0 0, [], (R.as.alloc _).alloc _, ⟨by rw [World.size_alloc, World.size_alloc]; omega, o1, o2, World.ownsRow_nil _ _ _ _, fun b e => by simp [Value.ownBlock] at e, rfl⟩, hY.symm, hn, fun _ => by simpa using hsm⟩, Nat.le_refl _⟩
 clear hn R hY hsm hvS hvL
 unfold Par.ptr zPg at *
 go_enter Tryz.func72, Tryz.ntmps72
 go_wp2_with fail
 go_loopg [] n (fun m W => TsI c w (.slice a1 n1 c1) (.slice a2 n2 c2) Y m W ∧ m ≤ n)
 case atStart => exact B0.out
 case round =>
  obtain ⟨⟨σj, l, vT, xs, A1, ht, hL, hfu, hle⟩, hgn⟩ := hrel
  have A := Lib.hid A1
  have TT := Lib.hid ht
  have HL := Lib.hid hL
  have HFU := Lib.hid (And.intro hfu hle)
  have HGN := Lib.hid hgn
  clear A1 ht hL hfu hle hgn
  obtain ⟨oT, capT, rfl, hoT⟩ := row_shape TT.out.row
  have HOT := Lib.hid hoT
  clear hoT
  obtain ⟨k, x0, x1, hk, hm, hlen⟩ := A.out.head HS.out
  have HR := Lib.hid (A.out.rs HS.out)
  have HLEN := Lib.hid (And.intro hk (And.intro hm hlen))
  obtain ⟨tl, htl⟩ : ∃ tl, tl = c.toks.length := ⟨_, rfl⟩
  rw [← htl] at x0 hk hm hlen HLEN
  have HQ := Lib.hid (fun n => HOQ.out _ σj n HR.out)
  have HBAD : Hid (¬ (σj.ok = true ∧ σj.ts ≠ []) → Y = (l, σj)) := fun h => by rw [← HL.out]; cases gk with | zero => rfl | succ q => (simp only [threadsM]; rw [if_neg h])
  by_cases hok : σj.ok = true
  · rw [hok] at HQ
    have HOK := Lib.hid hok
    have HLJ0 : Hid (l.length + σj.ts.length ≤ 65536 ∧ 3 * σj.ts.length + 2 ≤ gk) := ⟨HFU.out.2 hok, HFU.out.1 hok⟩
    by_cases hN : σj.ts.length = 0
    · have HYF : Hid (Y = (l, σj)) := HBAD.out (fun e => e.2 (List.length_eq_zero_iff.1 hN))
      have hkm : decide ((k : Int) < (tl : Int)) = false := b_f (by omega)
      have hkn : decide (k < tl) = false := b_f (by omega)
      clear hok hN hlen hk htl hm HLEN HBAD HL HFU HLJ0
      go_wp2_with fail
      go_quiet (first | (go_at_call 29; refine Calls.quiet_of_same (HQ.out _)))
      obtain ⟨W4, hW4⟩ : ∃ W, W = wr.drewN nq := ⟨_, rfl⟩
      have A := Lib.hid (A.out.drewN nq)
      have TT := Lib.hid (TT.out.drewN nq)
      rw [← hW4] at A TT ⊢
      clear hW4
      have pb0 := TT.out.pb
      have rb0 : Own W4 (w.heap.size + 1) 25 #[.slice none 0 0, .slice none 0 0, .slice none 0 0] := TT.out.rb
      go_wp2_with (first | (refine ld rowPg rfl rfl rfl pb0 rfl ?_) | (refine st rowPg rfl rfl rb0 rfl rfl (by rfl) (by rfl) (by kernel_rfl) ?_))
      have A := A.out.setRow (g := w.heap.size + 1) (by omega) (by have := hX.out; omega) #[.slice a1 n1 c1, .slice a2 n2 c2, .slice oT l.length capT]
      refine p_ret rowPg rfl (rb0.row #[.slice a1 n1 c1, .slice a2 n2 c2, .slice oT l.length capT]) rfl rfl rfl ?_
      show RsPost c w Y _ _ _
      rw [HYF.out]
      refine ⟨A.fr, _, rfl, ⟨oT, capT, rfl, ?_⟩, A.rs HS.out⟩
      have RW := row_row TT.out.row #[.slice a1 n1 c1, .slice a2 n2 c2, .slice oT l.length capT] (row_apart TT.out.row TT.out.rb rfl)
      have TV := thsV_stays (R' := fun b => w.heap.size ≤ b) (stays_row W4 (g := w.heap.size + 1) #[.slice a1 n1 c1, .slice a2 n2 c2, .slice oT l.length capT] (fun b hb => by have := hb.1; omega)) (fun b hb => by have := hb.1; omega) TT.out.ths
      cases l with
      | nil => exact .inl rfl
      | cons x xx =>
        obtain ⟨g, rfl, hg⟩ := HOT.out (by simp)
        exact .inr ⟨g, 0, rfl, hg, thsIn_of TV (row_cells RW rfl)⟩
    · have hkm : decide ((k : Int) < (tl : Int)) = true := by simp; omega
      have hkm2 : (k : Int) < (tl : Int) := by omega
      have hne : σj.ts ≠ [] := fun e => hN (by rw [e]; rfl)
      obtain ⟨m, rfl⟩ : ∃ m, gk = m + 1 := ⟨gk - 1, by have := HFU.out.1 hok; omega⟩
      have HW1 : Hid (∀ W, Rs c W σj → Calls Tryz.prog 123 #[.pointer (some ⟨c.X, 0, none⟩), .string ⟨#[116, 104, 114, 101, 97, 100]⟩] W fun e w' => e = .returned (.tuple #[]) ∧ Fr c W w' ∧ Rs c w' (σj.want c.L [116, 104, 114, 101, 97, 100])) := fun W R => HW.out W σj ⟨#[116, 104, 114, 101, 97, 100]⟩ R
      have HNX : Hid (threadsM c.L m (l ++ [(threadM c.L m (σj.want c.L [116, 104, 114, 101, 97, 100])).1]) (threadM c.L m (σj.want c.L [116, 104, 114, 101, 97, 100])).2 = Y) := by
       rw [Hid, ← HL.out]
       conv => rhs; simp only [threadsM]
       rw [if_pos ⟨hok, hne⟩]
      have HZL : Hid ((threadM c.L m (σj.want c.L [116, 104, 114, 101, 97, 100])).2.ok = true → (threadM c.L m (σj.want c.L [116, 104, 114, 101, 97, 100])).2.ts.length + 1 ≤ σj.ts.length) := fun h => by
       obtain ⟨h1, h2⟩ := thread_len h
       have := (want_len h1).2
       omega
      have HL1 : Hid ((σj.want c.L [116, 104, 114, 101, 97, 100]).ok = true → (σj.want c.L [116, 104, 114, 101, 97, 100]).ts.length + 1 = σj.ts.length) := fun h => (want_len h).2
      obtain ⟨σ1, hσ1⟩ : ∃ σ1, σ1 = σj.want c.L [116, 104, 114, 101, 97, 100] := ⟨_, rfl⟩
      rw [← hσ1] at HW1 HNX HZL HL1
      have HN1 : Hid (∀ W, Rs c W σ1 → Calls Tryz.prog 120 #[.pointer (some ⟨c.X, 0, none⟩)] W fun e w' => Fr c W w' ∧ e = .returned (.tuple #[.string (nameM c.L σ1).1.name, .int .i64 (nameM c.L σ1).1.pos]) ∧ Rs c w' (nameM c.L σ1).2) := fun W R => HNM.out W σ1 R
      have HL2 : Hid ((nameM c.L σ1).2.ok = true → σ1.ok = true ∧ (nameM c.L σ1).2.ts.length + 1 = σ1.ts.length) := fun h => name_len h
      have HTM : Hid (threadM c.L m σ1 = (⟨(nameM c.L σ1).1.name, (localsM c.L m [] ((nameM c.L σ1).2.want c.L [123])).1, (stsM c.L m 1 [] (localsM c.L m [] ((nameM c.L σ1).2.want c.L [123])).2).1, (nameM c.L σ1).1.pos⟩, (stsM c.L m 1 [] (localsM c.L m [] ((nameM c.L σ1).2.want c.L [123])).2).2)) := rfl
      rw [HTM.out] at HNX HZL
      obtain ⟨X, hX0⟩ : ∃ X, X = nameM c.L σ1 := ⟨_, rfl⟩
      rw [← hX0] at HN1 HL2 HNX HZL
      obtain ⟨⟨nm, wd, p⟩, σ2⟩ := X
      have HW2 : Hid (∀ W, Rs c W σ2 → Calls Tryz.prog 123 #[.pointer (some ⟨c.X, 0, none⟩), .string ⟨#[123]⟩] W fun e w' => e = .returned (.tuple #[]) ∧ Fr c W w' ∧ Rs c w' (σ2.want c.L [123])) := fun W R => HW.out W σ2 ⟨#[123]⟩ R
      have HL3 : Hid ((σ2.want c.L [123]).ok = true → σ2.ok = true ∧ (σ2.want c.L [123]).ts.length + 1 = σ2.ts.length) := fun h => want_len h
      simp only at HNX HZL HN1 HL2
      obtain ⟨σ3, hσ3⟩ : ∃ σ3, σ3 = σ2.want c.L [123] := ⟨_, rfl⟩
      rw [← hσ3] at HW2 HL3 HNX HZL
      obtain ⟨Z, hZ⟩ : ∃ Z, Z = localsM c.L m [] σ3 := ⟨_, rfl⟩
      have HL4 : Hid (Z.2.ok = true → σ3.ok = true ∧ Z.2.ts.length ≤ σ3.ts.length) := by rw [hZ]; exact fun h => locals_len m [] σ3 h
      have HZ0 := Lib.hid hZ.symm
      rw [← hZ] at HNX HZL
      have HLM : Hid (σ3.ok = true → 3 * σ3.ts.length + 5 ≤ m ∧ σ3.ts.length ≤ 65536) := fun h => by
       obtain ⟨h1, h2⟩ := HL3.out h
       obtain ⟨h3, h4⟩ := HL2.out h1
       have h5 := HL1.out h3
       have := HFU.out.1 hok
       omega
      have HLI : Hid (l.length + 1 ≤ 65536) := by have := HFU.out.2 hok; rw [Hid]; omega
      have HFU : Hid ((threadM c.L m σ1).2.ok = true → True) := fun _ => trivial
      have HLJ : Hid (l.length + σj.ts.length ≤ 65536 ∧ 3 * σj.ts.length + 2 ≤ m + 1) := HLJ0
      clear hok hN hlen hk htl hm hne HFU HTM HL HL1 HL2 HL3 HOK hσ1 hX0 hσ3 hZ HLEN
      go_wp2_with fail
      go_quiet (first | (go_at_call 29; refine Calls.quiet_of_same (HQ.out _)))
      clear x0 x1 hkm hkm2 HQ HR
      obtain ⟨W4, hW4⟩ : ∃ W, W = wr.drewN nq := ⟨_, rfl⟩
      have A := Lib.hid (A.out.drewN nq)
      have TT : Hid (TO w (wr.drewN nq).heap.size (.slice a1 n1 c1) (.slice a2 n2 c2) (.slice oT l.length capT) l xs (wr.drewN nq)) := TT.out.drewN nq
      rw [← hW4] at A TT ⊢
      clear hW4
      go_wp2_with fail
      go_at_call 123
      refine (HW1.out _ (A.out.rs HS.out)).mono ?_
      rintro e w5 ⟨rfl, hf, hr⟩
      have hz5 := Keep.size hf
      have A := Lib.hid (A.out.call hf hr)
      have TT := Lib.hid ((TT.out.fr hf hX.out).more hz5)
      clear hf hr hz5 HW1
      go_wp2_with fail
      go_at_call 120
      refine (HN1.out _ (A.out.rs HS.out)).mono ?_
      rintro e w6 ⟨hf, rfl, hr⟩
      have hz5 := Keep.size hf
      have A := Lib.hid ((A.out.call hf hr).alloc (.cells #[.string nm, .slice none 0 0, .slice none 0 0, .int .i64 p] 64))
      have TT := Lib.hid (((TT.out.fr hf hX.out).more hz5).alloc (.cells #[.string nm, .slice none 0 0, .slice none 0 0, .int .i64 p] 64))
      have TH := Lib.hid (Own.new w6 64 #[.string nm, .slice none 0 0, .slice none 0 0, .int .i64 p])
      have HSZ : Hid ((w6.alloc (.cells #[.string nm, .slice none 0 0, .slice none 0 0, .int .i64 p] 64)).heap.size = w6.heap.size + 1) := World.size_alloc _ _
      clear hf hr hz5 HN1
      go_wp2_with fail
      obtain ⟨W7, hW7⟩ : ∃ W, W = w6.alloc (.cells #[.string nm, .slice none 0 0, .slice none 0 0, .int .i64 p] 64) := ⟨_, rfl⟩
      rw [← hW7] at A TT TH HSZ ⊢
      clear hW7
      obtain ⟨TB, hTB⟩ : ∃ TB, TB = w6.heap.size := ⟨_, rfl⟩
      rw [← hTB] at TT TH HSZ ⊢
      clear hTB
      go_at_call 123
      refine (HW2.out _ (A.out.rs HS.out)).mono ?_
      rintro e w8 ⟨rfl, hf, hr⟩
      have HGE := Lib.hid TT.out.ge
      have A := Lib.hid (A.out.call hf hr)
      have TT := Lib.hid (TT.out.fr hf hX.out)
      have TH := Lib.hid (TH.out.fr hf (by have := HGE.out; have := hX.out; omega))
      clear hf hr HW2 HSZ
      have B1 : Hid (LcI c w TB nm p (.slice a1 n1 c1) (.slice a2 n2 c2) (.slice oT l.length capT) l xs Z m w8) := ⟨σ3, [], .slice none 0 0, A.out, TH.out, World.ownsRow_nil _ _ _ _, TT.out, HZ0.out, fun h => by have := (HLM.out h).1; omega, fun h => by have := (HLM.out h).2; simpa using this⟩
      clear A TT TH HZ0
      go_wp2_with fail
      go_loopg [] m (fun m' W => LcI c w TB nm p (.slice a1 n1 c1) (.slice a2 n2 c2) (.slice oT l.length capT) l xs Z m' W)
      case atStart => exact B1.out
      case round =>
       obtain ⟨σl, lo, vD, A1, hth, hrow, ht, hL, hfu, hle⟩ := hrel
       have A := Lib.hid A1
       have TH := Lib.hid hth
       have ROW := Lib.hid hrow
       have TT := Lib.hid ht
       have HL := Lib.hid hL
       have HFL := Lib.hid (And.intro hfu hle)
       clear A1 hth hrow ht hL hfu hle
       have HT := Lib.hid (fun W => HTK.out W σl)
       by_cases hc : σl.has c.L [108, 111, 99, 97, 108] = true
       · have HC := Lib.hid hc
         rw [hc] at HT
         clear hc
         obtain ⟨m2, rfl⟩ : ∃ m2, gk = m2 + 1 := ⟨gk - 1, by have := HFL.out.1 (has_ne HC.out).1; omega⟩
         go_wp2_with fail
         go_at_call 69
         refine (HT.out _ (A.out.rs HS.out)).mono ?_
         rintro e w9 ⟨rfl, hf, hr⟩
         have A := Lib.hid (A.out.call hf (show Rs c w9 σl.step from by rw [show σl.take c.L [108, 111, 99, 97, 108] = σl.step by unfold Sr.take; rw [if_pos HC.out]] at hr; exact hr))
         have TT := Lib.hid (TT.out.fr hf hX.out)
         have TH := Lib.hid (TH.out.fr hf (by have := HGE.out; have := hX.out; omega))
         have ROW := Lib.hid (row_fr ROW.out hf (by have := HGE.out; have := hX.out; omega))
         clear hf hr HT
         go_wp2_with fail
         have HOKL : Hid (σl.ok = true) := (has_ne HC.out).1
         have HLS : Hid (σl.step.ts.length + 1 = σl.ts.length) := (has_ne HC.out).2
         have HC4 : Hid (∀ W, Rs c W σl.step → Calls Tryz.prog 71 #[.pointer (some ⟨c.X, 0, none⟩)] W (RsPost c W (listM c.L (nameM c.L) m2 [] σl.step) (dcsW W.heap.size))) := fun W R => HNS.out W σl.step m2 R (fun _ => by have := HFL.out.1 HOKL.out; have := HLS.out; omega)
         have hD : Hid ((listM c.L (nameM c.L) m2 [] σl.step).1 ≠ [] ∧ lo.length + (listM c.L (nameM c.L) m2 [] σl.step).1.length ≤ 65600) := by
          obtain ⟨q1, q2, q3⟩ := listM_len (L := c.L) name_one (n := m2) (σ := σl.step)
          have h1 := HFL.out.1 HOKL.out
          have h2 := HFL.out.2 HOKL.out
          have h3 := HLS.out
          have h4 := q2 HOKL.out
          exact ⟨q3 HOKL.out (by omega), by omega⟩
         have HN5 : Hid ((listM c.L (nameM c.L) m2 [] σl.step).2.ok = true → (listM c.L (nameM c.L) m2 [] σl.step).1.length + (listM c.L (nameM c.L) m2 [] σl.step).2.ts.length + 1 ≤ σl.step.ts.length) := fun h => ((listM_len (L := c.L) name_one (n := m2) (σ := σl.step)).1 h).2
         have HNX2 : Hid (localsM c.L m2 (lo ++ (listM c.L (nameM c.L) m2 [] σl.step).1) (listM c.L (nameM c.L) m2 [] σl.step).2 = Z) := by
          rw [Hid, ← HL.out]
          conv => rhs; simp only [localsM]
          rw [if_pos HC.out]
         obtain ⟨Z4, hZ4⟩ : ∃ Z4, Z4 = listM c.L (nameM c.L) m2 [] σl.step := ⟨_, rfl⟩
         rw [← hZ4] at HC4 hD HN5 HNX2
         clear hZ4
         obtain ⟨d, σ5⟩ := Z4
         have hD : Hid (d ≠ [] ∧ lo.length + d.length ≤ 65600) := hD
         have HN5 : Hid (σ5.ok = true → d.length + σ5.ts.length + 1 ≤ σl.step.ts.length) := HN5
         refine wp_region_held (S := fun _ => True) (by kernel_rfl) ?_
         have A := Lib.hid A.out.drew
         have TH : Hid (Own w9.drew TB 64 #[.string nm, vD, .slice none 0 0, .int .i64 p]) := TH.out
         have ROW : Hid (w9.drew.ownsRow TB 66 3 vD lo.length (dcsL lo)) := ROW.out
         have TT := Lib.hid TT.out.drew
         change wpAnyH _ _ _ _ _ _ _ _ w9.drew
         obtain ⟨W0, hW0⟩ : ∃ W0, W0 = w9.drew := ⟨_, rfl⟩
         rw [← hW0] at A TH ROW TT ⊢
         clear hW0
         refine dr_take 0 (.pointer (some ⟨TB, 1, none⟩)) rfl rfl (by kernel_rfl) (by kernel_rfl) (by kernel_rfl) (fun _ _ _ h => h) (fun _ _ => by unfold execOp; go_simp) trivial ?_
         change wpAnyH _ _ _ _ _ _ _ { tmps := #[.pointer (some ⟨c.X, 0, none⟩), .agg #[.slice a1 n1 c1, .slice a2 n2 c2, .slice none 0 0], undef, .pointer (some ⟨w.heap.size, 0, none⟩), .pointer (some ⟨w.heap.size + 1, 0, none⟩), .string nm, .int .i64 p, .pointer (some ⟨TB, 0, none⟩), .pointer (some ⟨c.X, 0, none⟩), .bool true, .bool true, .pointer (some ⟨c.X, 0, none⟩), .pointer (some ⟨c.X, 0, none⟩), .pointer (some ⟨c.X, 1, none⟩), .int .i64 (k : Int), .pointer (some ⟨c.X, 0, none⟩), .pointer (some ⟨c.X, 0, none⟩), .pointer (some ⟨c.X, 0, none⟩), .slice c.ta tl c.cap, .int .i64 (tl : Int), .bool true, .bool true, .pointer (some ⟨c.X, 0, none⟩), .tuple #[], .tuple #[.string nm, .int .i64 p], .pointer (some ⟨c.X, 0, none⟩), .tuple #[.string nm, .int .i64 p], .string nm, .int .i64 p, .string nm, .int .i64 p, .agg #[.string nm, .slice none 0 0, .slice none 0 0, .int .i64 p], .pointer (some ⟨c.X, 0, none⟩), .tuple #[], .pointer (some ⟨c.X, 0, none⟩), .bool true, .pointer (some ⟨TB, 1, none⟩), u37, u38, u39, u40, u41, u42, u43, u44, u45, u46, u47, u48, u49, u50, undef], defers := [] } _
         refine dr_take 2 (.pointer (some ⟨c.X, 0, none⟩)) rfl rfl (by kernel_rfl) (by kernel_rfl) (by kernel_rfl) (fun _ _ _ h => h) (fun _ _ => rfl) trivial ?_
         change wpAnyH _ _ _ _ _ _ _ { tmps := #[.pointer (some ⟨c.X, 0, none⟩), .agg #[.slice a1 n1 c1, .slice a2 n2 c2, .slice none 0 0], undef, .pointer (some ⟨w.heap.size, 0, none⟩), .pointer (some ⟨w.heap.size + 1, 0, none⟩), .string nm, .int .i64 p, .pointer (some ⟨TB, 0, none⟩), .pointer (some ⟨c.X, 0, none⟩), .bool true, .bool true, .pointer (some ⟨c.X, 0, none⟩), .pointer (some ⟨c.X, 0, none⟩), .pointer (some ⟨c.X, 1, none⟩), .int .i64 (k : Int), .pointer (some ⟨c.X, 0, none⟩), .pointer (some ⟨c.X, 0, none⟩), .pointer (some ⟨c.X, 0, none⟩), .slice c.ta tl c.cap, .int .i64 (tl : Int), .bool true, .bool true, .pointer (some ⟨c.X, 0, none⟩), .tuple #[], .tuple #[.string nm, .int .i64 p], .pointer (some ⟨c.X, 0, none⟩), .tuple #[.string nm, .int .i64 p], .string nm, .int .i64 p, .string nm, .int .i64 p, .agg #[.string nm, .slice none 0 0, .slice none 0 0, .int .i64 p], .pointer (some ⟨c.X, 0, none⟩), .tuple #[], .pointer (some ⟨c.X, 0, none⟩), .bool true, .pointer (some ⟨TB, 1, none⟩), u37, .pointer (some ⟨c.X, 0, none⟩), u39, u40, u41, u42, u43, u44, u45, u46, u47, u48, u49, u50, undef], defers := [] } _
         refine dr_two 1 3 rfl rfl rfl rfl (by kernel_rfl) ?_ ?_
         · refine wp_ld_dcs rfl rfl (by rw [cell_of_row _ _ 1 _ _ _ TH.out]; rfl) ⟨trivial, ?_⟩
           change wpAnyH _ _ _ _ _ _ _ { tmps := #[.pointer (some ⟨c.X, 0, none⟩), .agg #[.slice a1 n1 c1, .slice a2 n2 c2, .slice none 0 0], undef, .pointer (some ⟨w.heap.size, 0, none⟩), .pointer (some ⟨w.heap.size + 1, 0, none⟩), .string nm, .int .i64 p, .pointer (some ⟨TB, 0, none⟩), .pointer (some ⟨c.X, 0, none⟩), .bool true, .bool true, .pointer (some ⟨c.X, 0, none⟩), .pointer (some ⟨c.X, 0, none⟩), .pointer (some ⟨c.X, 1, none⟩), .int .i64 (k : Int), .pointer (some ⟨c.X, 0, none⟩), .pointer (some ⟨c.X, 0, none⟩), .pointer (some ⟨c.X, 0, none⟩), .slice c.ta tl c.cap, .int .i64 (tl : Int), .bool true, .bool true, .pointer (some ⟨c.X, 0, none⟩), .tuple #[], .tuple #[.string nm, .int .i64 p], .pointer (some ⟨c.X, 0, none⟩), .tuple #[.string nm, .int .i64 p], .string nm, .int .i64 p, .string nm, .int .i64 p, .agg #[.string nm, .slice none 0 0, .slice none 0 0, .int .i64 p], .pointer (some ⟨c.X, 0, none⟩), .tuple #[], .pointer (some ⟨c.X, 0, none⟩), .bool true, .pointer (some ⟨TB, 1, none⟩), vD, .pointer (some ⟨c.X, 0, none⟩), u39, u40, u41, u42, u43, u44, u45, u46, u47, u48, u49, u50, undef], defers := [] } _
           refine dr_one 3 rfl rfl (by kernel_rfl) ?_
           refine wp_call (vs := #[.pointer (some ⟨c.X, 0, none⟩)]) rfl rfl (enters_of Tryz.func71 (by kernel_rfl) rfl) (by simp [Act.eval]) (HC4.out _ (A.out.rs HS.out)) ?_
           rintro e w4 ⟨hf4, v1, rfl, hrow1, hR1⟩
           have hrow1 : w4.ownsRow W0.heap.size 66 3 v1 d.length (dcsL d) := hrow1
           have A := Lib.hid (A.out.call hf4 hR1)
           have TT := Lib.hid (TT.out.fr hf4 hX.out)
           have TH := Lib.hid (TH.out.fr hf4 (by have := HGE.out; have := hX.out; omega))
           have ROW := Lib.hid (row_fr ROW.out hf4 (by have := HGE.out; have := hX.out; omega))
           obtain ⟨g1, cap1, rfl, hg1, hlt1⟩ := hrow1.form (List.length_pos_iff.2 hD.out.1)
           refine ⟨trivial, ?_⟩
           change wpAnyH _ _ _ _ _ _ _ { tmps := #[.pointer (some ⟨c.X, 0, none⟩), .agg #[.slice a1 n1 c1, .slice a2 n2 c2, .slice none 0 0], undef, .pointer (some ⟨w.heap.size, 0, none⟩), .pointer (some ⟨w.heap.size + 1, 0, none⟩), .string nm, .int .i64 p, .pointer (some ⟨TB, 0, none⟩), .pointer (some ⟨c.X, 0, none⟩), .bool true, .bool true, .pointer (some ⟨c.X, 0, none⟩), .pointer (some ⟨c.X, 0, none⟩), .pointer (some ⟨c.X, 1, none⟩), .int .i64 (k : Int), .pointer (some ⟨c.X, 0, none⟩), .pointer (some ⟨c.X, 0, none⟩), .pointer (some ⟨c.X, 0, none⟩), .slice c.ta tl c.cap, .int .i64 (tl : Int), .bool true, .bool true, .pointer (some ⟨c.X, 0, none⟩), .tuple #[], .tuple #[.string nm, .int .i64 p], .pointer (some ⟨c.X, 0, none⟩), .tuple #[.string nm, .int .i64 p], .string nm, .int .i64 p, .string nm, .int .i64 p, .agg #[.string nm, .slice none 0 0, .slice none 0 0, .int .i64 p], .pointer (some ⟨c.X, 0, none⟩), .tuple #[], .pointer (some ⟨c.X, 0, none⟩), .bool true, .pointer (some ⟨TB, 1, none⟩), vD, .pointer (some ⟨c.X, 0, none⟩), .slice (some ⟨g1, 0, none⟩) d.length cap1, u40, u41, u42, u43, u44, u45, u46, u47, u48, u49, u50, undef], defers := [] } _
           refine dr_one 4 rfl rfl (by kernel_rfl) ?_
           obtain ⟨i0, hi, hi0, hi1, hi2⟩ := info_parts infoDc
           refine wp_append_lies w4 _ _ 22 rfl TB 66 i0 _ 3 32 Tryz.underlying22 hi hi0 hi1 hi2 rfl (by decide) vD lo.length (dcsL lo) rfl ROW.out ⟨g1, 0, none⟩ d.length cap1 (dcsL d) rfl (dcsL_len d) (row_news hrow1) (dcsL_cells d) (List.length_pos_iff.2 hD.out.1) (by simp only [maxLen]; have := hD.out.2; omega) (by have := hD.out.2; omega) (by have := TH.out.lt; omega) _ rfl ?_
           intro g2 cap2 w5 hown2 hgrow2 hlies2 hlt2
           refine ⟨trivial, ?_⟩
           change wpAnyH _ _ _ _ _ _ _ { tmps := #[.pointer (some ⟨c.X, 0, none⟩), .agg #[.slice a1 n1 c1, .slice a2 n2 c2, .slice none 0 0], undef, .pointer (some ⟨w.heap.size, 0, none⟩), .pointer (some ⟨w.heap.size + 1, 0, none⟩), .string nm, .int .i64 p, .pointer (some ⟨TB, 0, none⟩), .pointer (some ⟨c.X, 0, none⟩), .bool true, .bool true, .pointer (some ⟨c.X, 0, none⟩), .pointer (some ⟨c.X, 0, none⟩), .pointer (some ⟨c.X, 1, none⟩), .int .i64 (k : Int), .pointer (some ⟨c.X, 0, none⟩), .pointer (some ⟨c.X, 0, none⟩), .pointer (some ⟨c.X, 0, none⟩), .slice c.ta tl c.cap, .int .i64 (tl : Int), .bool true, .bool true, .pointer (some ⟨c.X, 0, none⟩), .tuple #[], .tuple #[.string nm, .int .i64 p], .pointer (some ⟨c.X, 0, none⟩), .tuple #[.string nm, .int .i64 p], .string nm, .int .i64 p, .string nm, .int .i64 p, .agg #[.string nm, .slice none 0 0, .slice none 0 0, .int .i64 p], .pointer (some ⟨c.X, 0, none⟩), .tuple #[], .pointer (some ⟨c.X, 0, none⟩), .bool true, .pointer (some ⟨TB, 1, none⟩), vD, .pointer (some ⟨c.X, 0, none⟩), .slice (some ⟨g1, 0, none⟩) d.length cap1, .slice (some ⟨g2, 0, none⟩) (lo.length + d.length) cap2, u41, u42, u43, u44, u45, u46, u47, u48, u49, u50, undef], defers := [] } _
           refine dr_take 5 (.pointer (some ⟨TB, 1, none⟩)) rfl rfl (by kernel_rfl) (by kernel_rfl) (by kernel_rfl) (fun _ _ _ h => h) (fun _ _ => by unfold execOp; go_simp) trivial ?_
           change wpAnyH _ _ _ _ _ _ _ { tmps := #[.pointer (some ⟨c.X, 0, none⟩), .agg #[.slice a1 n1 c1, .slice a2 n2 c2, .slice none 0 0], undef, .pointer (some ⟨w.heap.size, 0, none⟩), .pointer (some ⟨w.heap.size + 1, 0, none⟩), .string nm, .int .i64 p, .pointer (some ⟨TB, 0, none⟩), .pointer (some ⟨c.X, 0, none⟩), .bool true, .bool true, .pointer (some ⟨c.X, 0, none⟩), .pointer (some ⟨c.X, 0, none⟩), .pointer (some ⟨c.X, 1, none⟩), .int .i64 (k : Int), .pointer (some ⟨c.X, 0, none⟩), .pointer (some ⟨c.X, 0, none⟩), .pointer (some ⟨c.X, 0, none⟩), .slice c.ta tl c.cap, .int .i64 (tl : Int), .bool true, .bool true, .pointer (some ⟨c.X, 0, none⟩), .tuple #[], .tuple #[.string nm, .int .i64 p], .pointer (some ⟨c.X, 0, none⟩), .tuple #[.string nm, .int .i64 p], .string nm, .int .i64 p, .string nm, .int .i64 p, .agg #[.string nm, .slice none 0 0, .slice none 0 0, .int .i64 p], .pointer (some ⟨c.X, 0, none⟩), .tuple #[], .pointer (some ⟨c.X, 0, none⟩), .bool true, .pointer (some ⟨TB, 1, none⟩), vD, .pointer (some ⟨c.X, 0, none⟩), .slice (some ⟨g1, 0, none⟩) d.length cap1, .slice (some ⟨g2, 0, none⟩) (lo.length + d.length) cap2, .pointer (some ⟨TB, 1, none⟩), u42, u43, u44, u45, u46, u47, u48, u49, u50, undef], defers := [] } _
           refine dr_one 6 rfl rfl (by kernel_rfl) ?_
           have B3 := own_grown TH.out hgrow2 (row_apart ROW.out TH.out rfl)
           refine wp_st_dcs rfl rfl rfl (u := vD) (by rw [cell_of_row w5 _ 1 _ _ _ B3]; rfl) (own_frozen B3 1) ⟨trivial, ?_⟩
           rw [setCell_row B3 1 _]
           have A := Lib.hid ((A.out.grown hgrow2 (fun r hr => by have := (ROW.out.lt r hr).1; have := HGE.out; have := hX.out; omega)).setRow (g := TB) (by have := HGE.out; omega) (by have := HGE.out; have := hX.out; omega) #[.string nm, .slice (some ⟨g2, 0, none⟩) (lo.length + d.length) cap2, .slice none 0 0, .int .i64 p])
           have TT := Lib.hid ((TT.out.grown hgrow2 (fun r hr => (ROW.out.lt r hr).1)).setRow (Nat.le_refl TB) #[.string nm, .slice (some ⟨g2, 0, none⟩) (lo.length + d.length) cap2, .slice none 0 0, .int .i64 p])
           have ROW := Lib.hid (row_row hown2 #[.string nm, .slice (some ⟨g2, 0, none⟩) (lo.length + d.length) cap2, .slice none 0 0, .int .i64 p] (row_apart hown2 B3 rfl))
           have TH := Lib.hid (B3.row #[.string nm, .slice (some ⟨g2, 0, none⟩) (lo.length + d.length) cap2, .slice none 0 0, .int .i64 p])
           refine wpAnyH_done (by kernel_rfl) ?_ _
           clear hrow1 hown2 hgrow2 hlies2 B3 hi hi0 hi1 hi2
           go_wp2_with fail
           go_roundg m2
           case measure => omega
           case rel =>
            refine ⟨σ5, lo ++ d, _, A.out, TH.out, ?_, TT.out, HNX2.out, fun h => by have := (HN5.out h); have := (HFL.out.1 HOKL.out); have := HLS.out; omega, fun h => by have := (HN5.out h); have := (HFL.out.2 HOKL.out); have := HLS.out; rw [List.length_append]; omega⟩
            have := ROW.out
            simp only [List.length_append, dcsL, List.flatMap_append] at this ⊢
            exact this
         · refine wp_call (vs := #[.pointer (some ⟨c.X, 0, none⟩)]) rfl rfl (enters_of Tryz.func71 (by kernel_rfl) rfl) (by simp [Act.eval]) (HC4.out _ (A.out.rs HS.out)) ?_
           rintro e w4 ⟨hf4, v1, rfl, hrow1, hR1⟩
           have hrow1 : w4.ownsRow W0.heap.size 66 3 v1 d.length (dcsL d) := hrow1
           have A := Lib.hid (A.out.call hf4 hR1)
           have TT := Lib.hid (TT.out.fr hf4 hX.out)
           have TH := Lib.hid (TH.out.fr hf4 (by have := HGE.out; have := hX.out; omega))
           have ROW := Lib.hid (row_fr ROW.out hf4 (by have := HGE.out; have := hX.out; omega))
           obtain ⟨g1, cap1, rfl, hg1, hlt1⟩ := hrow1.form (List.length_pos_iff.2 hD.out.1)
           refine ⟨trivial, ?_⟩
           change wpAnyH _ _ _ _ _ _ _ { tmps := #[.pointer (some ⟨c.X, 0, none⟩), .agg #[.slice a1 n1 c1, .slice a2 n2 c2, .slice none 0 0], undef, .pointer (some ⟨w.heap.size, 0, none⟩), .pointer (some ⟨w.heap.size + 1, 0, none⟩), .string nm, .int .i64 p, .pointer (some ⟨TB, 0, none⟩), .pointer (some ⟨c.X, 0, none⟩), .bool true, .bool true, .pointer (some ⟨c.X, 0, none⟩), .pointer (some ⟨c.X, 0, none⟩), .pointer (some ⟨c.X, 1, none⟩), .int .i64 (k : Int), .pointer (some ⟨c.X, 0, none⟩), .pointer (some ⟨c.X, 0, none⟩), .pointer (some ⟨c.X, 0, none⟩), .slice c.ta tl c.cap, .int .i64 (tl : Int), .bool true, .bool true, .pointer (some ⟨c.X, 0, none⟩), .tuple #[], .tuple #[.string nm, .int .i64 p], .pointer (some ⟨c.X, 0, none⟩), .tuple #[.string nm, .int .i64 p], .string nm, .int .i64 p, .string nm, .int .i64 p, .agg #[.string nm, .slice none 0 0, .slice none 0 0, .int .i64 p], .pointer (some ⟨c.X, 0, none⟩), .tuple #[], .pointer (some ⟨c.X, 0, none⟩), .bool true, .pointer (some ⟨TB, 1, none⟩), u37, .pointer (some ⟨c.X, 0, none⟩), .slice (some ⟨g1, 0, none⟩) d.length cap1, u40, u41, u42, u43, u44, u45, u46, u47, u48, u49, u50, undef], defers := [] } _
           refine dr_one 1 rfl rfl (by kernel_rfl) ?_
           refine wp_ld_dcs rfl rfl (by rw [cell_of_row _ _ 1 _ _ _ TH.out]; rfl) ⟨trivial, ?_⟩
           change wpAnyH _ _ _ _ _ _ _ { tmps := #[.pointer (some ⟨c.X, 0, none⟩), .agg #[.slice a1 n1 c1, .slice a2 n2 c2, .slice none 0 0], undef, .pointer (some ⟨w.heap.size, 0, none⟩), .pointer (some ⟨w.heap.size + 1, 0, none⟩), .string nm, .int .i64 p, .pointer (some ⟨TB, 0, none⟩), .pointer (some ⟨c.X, 0, none⟩), .bool true, .bool true, .pointer (some ⟨c.X, 0, none⟩), .pointer (some ⟨c.X, 0, none⟩), .pointer (some ⟨c.X, 1, none⟩), .int .i64 (k : Int), .pointer (some ⟨c.X, 0, none⟩), .pointer (some ⟨c.X, 0, none⟩), .pointer (some ⟨c.X, 0, none⟩), .slice c.ta tl c.cap, .int .i64 (tl : Int), .bool true, .bool true, .pointer (some ⟨c.X, 0, none⟩), .tuple #[], .tuple #[.string nm, .int .i64 p], .pointer (some ⟨c.X, 0, none⟩), .tuple #[.string nm, .int .i64 p], .string nm, .int .i64 p, .string nm, .int .i64 p, .agg #[.string nm, .slice none 0 0, .slice none 0 0, .int .i64 p], .pointer (some ⟨c.X, 0, none⟩), .tuple #[], .pointer (some ⟨c.X, 0, none⟩), .bool true, .pointer (some ⟨TB, 1, none⟩), vD, .pointer (some ⟨c.X, 0, none⟩), .slice (some ⟨g1, 0, none⟩) d.length cap1, u40, u41, u42, u43, u44, u45, u46, u47, u48, u49, u50, undef], defers := [] } _
           refine dr_one 4 rfl rfl (by kernel_rfl) ?_
           obtain ⟨i0, hi, hi0, hi1, hi2⟩ := info_parts infoDc
           refine wp_append_lies w4 _ _ 22 rfl TB 66 i0 _ 3 32 Tryz.underlying22 hi hi0 hi1 hi2 rfl (by decide) vD lo.length (dcsL lo) rfl ROW.out ⟨g1, 0, none⟩ d.length cap1 (dcsL d) rfl (dcsL_len d) (row_news hrow1) (dcsL_cells d) (List.length_pos_iff.2 hD.out.1) (by simp only [maxLen]; have := hD.out.2; omega) (by have := hD.out.2; omega) (by have := TH.out.lt; omega) _ rfl ?_
           intro g2 cap2 w5 hown2 hgrow2 hlies2 hlt2
           refine ⟨trivial, ?_⟩
           change wpAnyH _ _ _ _ _ _ _ { tmps := #[.pointer (some ⟨c.X, 0, none⟩), .agg #[.slice a1 n1 c1, .slice a2 n2 c2, .slice none 0 0], undef, .pointer (some ⟨w.heap.size, 0, none⟩), .pointer (some ⟨w.heap.size + 1, 0, none⟩), .string nm, .int .i64 p, .pointer (some ⟨TB, 0, none⟩), .pointer (some ⟨c.X, 0, none⟩), .bool true, .bool true, .pointer (some ⟨c.X, 0, none⟩), .pointer (some ⟨c.X, 0, none⟩), .pointer (some ⟨c.X, 1, none⟩), .int .i64 (k : Int), .pointer (some ⟨c.X, 0, none⟩), .pointer (some ⟨c.X, 0, none⟩), .pointer (some ⟨c.X, 0, none⟩), .slice c.ta tl c.cap, .int .i64 (tl : Int), .bool true, .bool true, .pointer (some ⟨c.X, 0, none⟩), .tuple #[], .tuple #[.string nm, .int .i64 p], .pointer (some ⟨c.X, 0, none⟩), .tuple #[.string nm, .int .i64 p], .string nm, .int .i64 p, .string nm, .int .i64 p, .agg #[.string nm, .slice none 0 0, .slice none 0 0, .int .i64 p], .pointer (some ⟨c.X, 0, none⟩), .tuple #[], .pointer (some ⟨c.X, 0, none⟩), .bool true, .pointer (some ⟨TB, 1, none⟩), vD, .pointer (some ⟨c.X, 0, none⟩), .slice (some ⟨g1, 0, none⟩) d.length cap1, .slice (some ⟨g2, 0, none⟩) (lo.length + d.length) cap2, u41, u42, u43, u44, u45, u46, u47, u48, u49, u50, undef], defers := [] } _
           refine dr_take 5 (.pointer (some ⟨TB, 1, none⟩)) rfl rfl (by kernel_rfl) (by kernel_rfl) (by kernel_rfl) (fun _ _ _ h => h) (fun _ _ => by unfold execOp; go_simp) trivial ?_
           change wpAnyH _ _ _ _ _ _ _ { tmps := #[.pointer (some ⟨c.X, 0, none⟩), .agg #[.slice a1 n1 c1, .slice a2 n2 c2, .slice none 0 0], undef, .pointer (some ⟨w.heap.size, 0, none⟩), .pointer (some ⟨w.heap.size + 1, 0, none⟩), .string nm, .int .i64 p, .pointer (some ⟨TB, 0, none⟩), .pointer (some ⟨c.X, 0, none⟩), .bool true, .bool true, .pointer (some ⟨c.X, 0, none⟩), .pointer (some ⟨c.X, 0, none⟩), .pointer (some ⟨c.X, 1, none⟩), .int .i64 (k : Int), .pointer (some ⟨c.X, 0, none⟩), .pointer (some ⟨c.X, 0, none⟩), .pointer (some ⟨c.X, 0, none⟩), .slice c.ta tl c.cap, .int .i64 (tl : Int), .bool true, .bool true, .pointer (some ⟨c.X, 0, none⟩), .tuple #[], .tuple #[.string nm, .int .i64 p], .pointer (some ⟨c.X, 0, none⟩), .tuple #[.string nm, .int .i64 p], .string nm, .int .i64 p, .string nm, .int .i64 p, .agg #[.string nm, .slice none 0 0, .slice none 0 0, .int .i64 p], .pointer (some ⟨c.X, 0, none⟩), .tuple #[], .pointer (some ⟨c.X, 0, none⟩), .bool true, .pointer (some ⟨TB, 1, none⟩), vD, .pointer (some ⟨c.X, 0, none⟩), .slice (some ⟨g1, 0, none⟩) d.length cap1, .slice (some ⟨g2, 0, none⟩) (lo.length + d.length) cap2, .pointer (some ⟨TB, 1, none⟩), u42, u43, u44, u45, u46, u47, u48, u49, u50, undef], defers := [] } _
           refine dr_one 6 rfl rfl (by kernel_rfl) ?_
           have B3 := own_grown TH.out hgrow2 (row_apart ROW.out TH.out rfl)
           refine wp_st_dcs rfl rfl rfl (u := vD) (by rw [cell_of_row w5 _ 1 _ _ _ B3]; rfl) (own_frozen B3 1) ⟨trivial, ?_⟩
           rw [setCell_row B3 1 _]
           have A := Lib.hid ((A.out.grown hgrow2 (fun r hr => by have := (ROW.out.lt r hr).1; have := HGE.out; have := hX.out; omega)).setRow (g := TB) (by have := HGE.out; omega) (by have := HGE.out; have := hX.out; omega) #[.string nm, .slice (some ⟨g2, 0, none⟩) (lo.length + d.length) cap2, .slice none 0 0, .int .i64 p])
           have TT := Lib.hid ((TT.out.grown hgrow2 (fun r hr => (ROW.out.lt r hr).1)).setRow (Nat.le_refl TB) #[.string nm, .slice (some ⟨g2, 0, none⟩) (lo.length + d.length) cap2, .slice none 0 0, .int .i64 p])
           have ROW := Lib.hid (row_row hown2 #[.string nm, .slice (some ⟨g2, 0, none⟩) (lo.length + d.length) cap2, .slice none 0 0, .int .i64 p] (row_apart hown2 B3 rfl))
           have TH := Lib.hid (B3.row #[.string nm, .slice (some ⟨g2, 0, none⟩) (lo.length + d.length) cap2, .slice none 0 0, .int .i64 p])
           refine wpAnyH_done (by kernel_rfl) ?_ _
           clear hrow1 hown2 hgrow2 hlies2 B3 hi hi0 hi1 hi2
           go_wp2_with fail
           go_roundg m2
           case measure => omega
           case rel =>
            refine ⟨σ5, lo ++ d, _, A.out, TH.out, ?_, TT.out, HNX2.out, fun h => by have := (HN5.out h); have := (HFL.out.1 HOKL.out); have := HLS.out; omega, fun h => by have := (HN5.out h); have := (HFL.out.2 HOKL.out); have := HLS.out; rw [List.length_append]; omega⟩
            have := ROW.out
            simp only [List.length_append, dcsL, List.flatMap_append] at this ⊢
            exact this
       · have HC := Lib.hid (show σl.has c.L [108, 111, 99, 97, 108] = false by simpa using hc)
         have HZF : Hid (Z = (lo, σl)) := by
          rw [Hid, ← HL.out]
          cases gk with
          | zero => rfl
          | succ q => simp only [localsM]; rw [if_neg hc]
         rw [HC.out] at HT
         clear hc HL
         have HST4 : Hid (∀ W, Rs c W σl → Calls Tryz.prog 124 #[.pointer (some ⟨c.X, 0, none⟩), .int .i64 1] W (RsPost c W (stsM c.L m 1 [] σl) (fun l v W' => stsVal W.heap.size l v W'))) := fun W R => HST.out W σl m R (fun h => by
          have e : Z.2 = σl := by rw [HZF.out]
          have := HL4.out (by rw [e]; exact h)
          rw [e] at this
          have := HLM.out this.1
          omega)
         rw [HZF.out] at HNX HZL
         simp only at HNX HZL
         obtain ⟨V, hV⟩ : ∃ V, V = stsM c.L m 1 [] σl := ⟨_, rfl⟩
         rw [← hV] at HST4 HNX HZL
         obtain ⟨b, σ6⟩ := V
         have HNX : Hid (threadsM c.L m (l ++ [⟨nm, lo, b, p⟩]) σ6 = Y) := HNX
         have HZL : Hid (σ6.ok = true → σ6.ts.length + 1 ≤ σj.ts.length) := HZL
         clear hV HZF HFL HL4
         obtain ⟨oa, cap, rfl, hoa⟩ := row_shape ROW.out
         have HOA := Lib.hid hoa
         clear hoa
         go_wp2_with fail
         go_at_call 69
         refine (HT.out _ (A.out.rs HS.out)).mono ?_
         rintro e w9 ⟨rfl, hf, hr⟩
         have A := Lib.hid (A.out.call hf (show Rs c w9 σl from by rw [show σl.take c.L [108, 111, 99, 97, 108] = σl by unfold Sr.take; rw [if_neg (by rw [HC.out]; decide)]] at hr; exact hr))
         have TT := Lib.hid (TT.out.fr hf hX.out)
         have TH := Lib.hid (TH.out.fr hf (by have := HGE.out; have := hX.out; omega))
         have ROW := Lib.hid (row_fr ROW.out hf (by have := HGE.out; have := hX.out; omega))
         clear hf hr HT HC
         go_wp2_with fail
         go_at_call 124
         refine (HST4.out _ (A.out.rs HS.out)).mono ?_
         rintro e w4 ⟨hf, v4, rfl, ⟨a4, c4, rfl, hV4⟩, hr⟩
         have hlt9 := TH.out.lt
         have V4 := Lib.hid (stsAt_mono (R' := fun b => TB < b) hV4 (fun b hb => Nat.lt_of_lt_of_le hlt9 hb))
         have A := Lib.hid (A.out.call hf hr)
         have TT := Lib.hid (TT.out.fr hf hX.out)
         have TH := Lib.hid (TH.out.fr hf (by have := HGE.out; have := hX.out; omega))
         have ROW := Lib.hid (row_fr ROW.out hf (by have := HGE.out; have := hX.out; omega))
         clear hf hr hV4 hlt9 HST4
         have E5 : w4.setCell ⟨TB, 2, none⟩ (.slice a4 b.length c4) = w4.setRow TB #[.string nm, .slice oa lo.length cap, .slice a4 b.length c4, .int .i64 p] := setCell_row TH.out 2 _
         have c5 : w4.cell? ⟨TB, 2, none⟩ = some (.slice none 0 0) := by rw [cell_of_row w4 _ 2 _ _ _ TH.out]; rfl
         have z5 := own_frozen TH.out 2
         have TT := Lib.hid (TT.out.setRow (Nat.le_refl TB) #[.string nm, .slice oa lo.length cap, .slice a4 b.length c4, .int .i64 p])
         have A := Lib.hid (A.out.setRow (g := TB) (by have := HGE.out; omega) (by have := HGE.out; have := hX.out; omega) #[.string nm, .slice oa lo.length cap, .slice a4 b.length c4, .int .i64 p])
         have ROW := Lib.hid (row_row ROW.out #[.string nm, .slice oa lo.length cap, .slice a4 b.length c4, .int .i64 p] (row_apart ROW.out TH.out rfl))
         have V4 := Lib.hid (stsAt_stays (stays_row w4 (g := TB) #[.string nm, .slice oa lo.length cap, .slice a4 b.length c4, .int .i64 p] (fun b hb => by omega)) (fun b hb => hb) V4.out)
         have OS := TH.out.row #[.string nm, .slice oa lo.length cap, .slice a4 b.length c4, .int .i64 p]
         have c6 : (w4.setRow TB #[.string nm, .slice oa lo.length cap, .slice a4 b.length c4, .int .i64 p]).cell? ⟨w.heap.size, 2, none⟩ = some (.slice oT l.length capT) := by rw [cell_of_row _ _ 2 _ _ _ TT.out.pb]; rfl
         obtain ⟨i0, hi, hi0, hi1, hi2⟩ := info_parts infoTh
         have N3 := Own.new (w4.setRow TB #[.string nm, .slice oa lo.length cap, .slice a4 b.length c4, .int .i64 p]) 64 #[.string nm, .slice oa lo.length cap, .slice a4 b.length c4, .int .i64 p]
         have HNEWS : Hid (∀ jj u, [Value.string nm, .slice oa lo.length cap, .slice a4 b.length c4, .int .i64 p][jj]? = some u → ((w4.setRow TB #[.string nm, .slice oa lo.length cap, .slice a4 b.length c4, .int .i64 p]).alloc (.cells #[.string nm, .slice oa lo.length cap, .slice a4 b.length c4, .int .i64 p] 64)).cell? ((⟨(w4.setRow TB #[.string nm, .slice oa lo.length cap, .slice a4 b.length c4, .int .i64 p]).heap.size, 0, none⟩ : Addr).add jj) = some u) := World.news_of_block N3
         have HSZ := Lib.hid (World.size_alloc (w4.setRow TB #[.string nm, .slice oa lo.length cap, .slice a4 b.length c4, .int .i64 p]) (.cells #[.string nm, .slice oa lo.length cap, .slice a4 b.length c4, .int .i64 p] 64))
         have row3 := TT.out.row.alloc (.cells #[.string nm, .slice oa lo.length cap, .slice a4 b.length c4, .int .i64 p] 64)
         have T3 := Lib.hid (TT.out.alloc (.cells #[.string nm, .slice oa lo.length cap, .slice a4 b.length c4, .int .i64 p] 64))
         have pb3 := T3.out.pb
         have hl6 := HLI.out
         have hne3 : (Value.slice oT l.length capT).ownBlock ≠ some w.heap.size := row_apart row3 pb3 rfl
         have hsz3 : w.heap.size ≤ ((w4.setRow TB #[.string nm, .slice oa lo.length cap, .slice a4 b.length c4, .int .i64 p]).alloc (.cells #[.string nm, .slice oa lo.length cap, .slice a4 b.length c4, .int .i64 p] 64)).heap.size := by have := pb3.lt; omega
         obtain ⟨W5, hW5⟩ : ∃ W, W = w4.setRow TB #[.string nm, .slice oa lo.length cap, .slice a4 b.length c4, .int .i64 p] := ⟨_, rfl⟩
         rw [← hW5] at A TT ROW V4 OS c6 HNEWS HSZ row3 T3 pb3 E5 N3 hsz3
         clear hW5 TH
         go_wp2_with (first | (refine ld rowTh rfl rfl rfl OS rfl ?_) | (at_builtin; refine wpList_append_lies _ rfl _ _ 23 rfl w.heap.size 64 i0 _ 4 72 Tryz.underlying23 hi hi0 hi1 hi2 rfl (by decide) _ _ _ rfl row3 ⟨W5.heap.size, 0, none⟩ 1 1 [.string nm, .slice oa lo.length cap, .slice a4 b.length c4, .int .i64 p] rfl rfl HNEWS.out (by simp [Value.oneCell']) (by decide) (by simp only [maxLen]; omega) (by omega) (by omega) _ rfl ?_; intro g2 cap2 w6' hown' hgrow hlies hglt; have pb6 := own_grown pb3 hgrow hne3; have E6 := setCell_row pb6 2 (.slice (some ⟨g2, 0, none⟩) (l.length + 1) cap2); have c7 : w6'.cell? ⟨w.heap.size, 2, none⟩ = some (.slice oT l.length capT) := (by rw [cell_of_row w6' _ 2 _ _ _ pb6]; rfl); have z7 := own_frozen pb6 2; have ROW4 := Lib.hid hown'; have GR := Lib.hid hgrow; have LIES := Lib.hid hlies; have PB6 := Lib.hid pb6; clear hown' hgrow hlies pb6))
         go_roundg m
         case measure => omega
         case rel =>
          have hx := hX.out
          have hge := HGE.out
          have hnR : (Value.slice oT l.length capT).ownBlock ≠ some (w.heap.size + 1) := row_apart row3 T3.out.rb rfl
          have RB6 := own_grown T3.out.rb GR.out hnR
          have RW := row_row ROW4.out #[.slice a1 n1 c1, .slice a2 n2 c2, .slice (some ⟨g2, 0, none⟩) (l.length + 1) cap2] (row_apart ROW4.out PB6.out rfl)
          have NV : thV (fun b' => w.heap.size + 1 < b' ∧ (Value.slice oT l.length capT).ownBlock ≠ some b') W5 ⟨nm, lo, b, p⟩ [.string nm, .slice oa lo.length cap, .slice a4 b.length c4, .int .i64 p] := by
           refine ⟨oa, cap, a4, c4, rfl, ?_, stsAt_mono V4.out (fun b' hb => ⟨by omega, fun e => by have := TT.out.lt b' e; omega⟩)⟩
           cases lo with
           | nil => exact .inl rfl
           | cons x xx =>
             obtain ⟨g, rfl, hg⟩ := HOA.out (by simp)
             exact .inr ⟨g, 0, rfl, ⟨by omega, fun e => by have := TT.out.lt g e; omega⟩, dcsIn_of (row_cells ROW.out rfl)⟩
          have SN := thsV_in (thsV_snoc (thsV_stays (R' := fun b' => w.heap.size + 1 < b' ∧ (Value.slice oT l.length capT).ownBlock ≠ some b') (Stays.refl _ W5) (fun b' hb => ⟨hb.1, hb.2.1⟩) TT.out.ths) NV)
          have SN := thsV_stays (stays_alloc _ W5 (.cells #[.string nm, .slice oa lo.length cap, .slice a4 b.length c4, .int .i64 p] 64)) (fun b' hb => hb) SN
          have SN := thsV_stays (stays_grown GR.out (fun b' hb => hb.1.2)) (fun b' hb => hb) SN
          have SN := thsV_in (thsV_stays (stays_row w6' (g := w.heap.size) #[.slice a1 n1 c1, .slice a2 n2 c2, .slice (some ⟨g2, 0, none⟩) (l.length + 1) cap2] (fun b' hb => by have := hb.1.1; omega)) (fun b' hb => hb) SN)
          refine ⟨⟨σ6, l ++ [⟨nm, lo, b, p⟩], .slice (some ⟨g2, 0, none⟩) (l.length + 1) cap2, _, ((A.out.alloc (.cells #[.string nm, .slice oa lo.length cap, .slice a4 b.length c4, .int .i64 p] 64)).grown GR.out (fun r hr => by have := (row3.lt r hr).1; omega)).setRow (g := w.heap.size) (Nat.le_refl _) (by omega) #[.slice a1 n1 c1, .slice a2 n2 c2, .slice (some ⟨g2, 0, none⟩) (l.length + 1) cap2], ⟨(RB6.other (g := w.heap.size) #[.slice a1 n1 c1, .slice a2 n2 c2, .slice (some ⟨g2, 0, none⟩) (l.length + 1) cap2] (by omega)).lt, PB6.out.row #[.slice a1 n1 c1, .slice a2 n2 c2, .slice (some ⟨g2, 0, none⟩) (l.length + 1) cap2], RB6.other (g := w.heap.size) #[.slice a1 n1 c1, .slice a2 n2 c2, .slice (some ⟨g2, 0, none⟩) (l.length + 1) cap2] (by omega), by rw [List.length_append]; exact RW, fun b' e => (RW.lt b' e).2, ?_⟩, HNX.out, fun h => by have := HZL.out h; have := HLJ.out; omega, fun h => by have := HZL.out h; have := HLJ.out; rw [List.length_append, List.length_singleton]; omega⟩, by have := HGN.out; omega⟩
          refine thsV_stays (Stays.refl _ _) (fun b' hb => ⟨hb.1.1.1, fun e => ?_, hb.2⟩) SN
          have e : g2 = b' := by simpa [Value.ownBlock] using e
          subst e
          rcases LIES.out with h | h
          · exact hb.1.1.2 h
          · rw [HSZ.out] at h; have := hb.1.2; omega
  · have HYF : Hid (Y = (l, σj)) := HBAD.out (fun e => hok e.1)
    have hb : σj.ok = false := by simpa using hok
    rw [hb] at HQ
    clear hok hb hlen hk htl hm HLEN HBAD HL HFU
    go_wp2_with fail
    go_quiet (first | (go_at_call 29; refine Calls.quiet_of_same (HQ.out _)))
    obtain ⟨W4, hW4⟩ : ∃ W, W = wr.drewN nq := ⟨_, rfl⟩
    have A := Lib.hid (A.out.drewN nq)
    have TT := Lib.hid (TT.out.drewN nq)
    rw [← hW4] at A TT ⊢
    clear hW4
    have pb0 := TT.out.pb
    have rb0 : Own W4 (w.heap.size + 1) 25 #[.slice none 0 0, .slice none 0 0, .slice none 0 0] := TT.out.rb
    go_wp2_with (first | (refine ld rowPg rfl rfl rfl pb0 rfl ?_) | (refine st rowPg rfl rfl rb0 rfl rfl (by rfl) (by rfl) (by kernel_rfl) ?_))
    have A := A.out.setRow (g := w.heap.size + 1) (by omega) (by have := hX.out; omega) #[.slice a1 n1 c1, .slice a2 n2 c2, .slice oT l.length capT]
    refine p_ret rowPg rfl (rb0.row #[.slice a1 n1 c1, .slice a2 n2 c2, .slice oT l.length capT]) rfl rfl rfl ?_
    show RsPost c w Y _ _ _
    rw [HYF.out]
    refine ⟨A.fr, _, rfl, ⟨oT, capT, rfl, ?_⟩, A.rs HS.out⟩
    have RW := row_row TT.out.row #[.slice a1 n1 c1, .slice a2 n2 c2, .slice oT l.length capT] (row_apart TT.out.row TT.out.rb rfl)
    have TV := thsV_stays (R' := fun b => w.heap.size ≤ b) (stays_row W4 (g := w.heap.size + 1) #[.slice a1 n1 c1, .slice a2 n2 c2, .slice oT l.length capT] (fun b hb => by have := hb.1; omega)) (fun b hb => by have := hb.1; omega) TT.out.ths
    cases l with
    | nil => exact .inl rfl
    | cons x xx =>
      obtain ⟨g, rfl, hg⟩ := HOT.out (by simp)
      exact .inr ⟨g, 0, rfl, hg, thsIn_of TV (row_cells RW rfl)⟩
end Go.Proofs.YtfogkobgjojpiaaGreatDoor

/- The proof, part 33: texts that belong together, in one. -/
import Derived.Test.YtfogkobgjojpiaaGreatDoorQBF
import Derived.Deep.RegionWith
import Derived.Test.YtfogkobgjojpiaaGreatDoorQBB
import Derived.Test.YtfogkobgjojpiaaGreatDoorQAO
import Derived.Deep.LoopGhost
set_option maxRecDepth 100000
set_option maxHeartbeats 20000000
namespace Go.Proofs.YtfogkobgjojpiaaGreatDoor
open Go.RowKit
set_option linter.unusedVariables false
theorem Own.away {W : World} {b : Nat} {T : TypeId} {cs : Array Value} (h : Own W b T cs) {x : Nat} (hx : x ≠ b) (j : Nat) (v : Value) : Own (W.setCell ⟨x, j, none⟩ v) b T cs := h.setX j v hx
theorem r_ok_same {c : Par} {w : World} {σ : Sr} (R : Rs c w σ) : Calls Tryz.prog 29 #[c.ptr] w fun e w' => e = .returned (.bool σ.ok) ∧ w' = w := by
 obtain ⟨k, R, _⟩ := R
 obtain ⟨⟨_, _, _, _, c4⟩, _⟩ := (Ak.start R).cells
 have hX := R.lt
 clear R
 unfold Par.ptr Sr.ok
 go_enter Tryz.func29, Tryz.ntmps29
 go_wp2
 go_ret
 exact ⟨rfl, rfl⟩
theorem Rs.drewN {c : Par} {w : World} {σ : Sr} (R : Rs c w σ) (n : Nat) : Rs c (w.drewN n) σ := by
 obtain ⟨k, R, h⟩ := R
 exact ⟨k, ⟨R.s.keep (Keep.drewN (Fr.refl c w) n), R.pos, R.le⟩, h⟩
open Go.RowKit
set_option linter.unusedVariables false
def zD : Dc := ⟨⟨#[]⟩, 0, 0⟩
section
variable (L : Int)
def nameM (σ : Sr) : Dc × Sr := if σ.ok = true ∧ (hereM L σ.ts).kind = 1 then (⟨(hereM L σ.ts).text, 0, (hereM L σ.ts).pos⟩, σ.step) else (zD, σ.fail L 2)
def numS (σ : Sr) : Sr := if ¬ (hereM L σ.ts).kind = 3 then σ.fail L 2 else if σ.ok = true then σ.step else σ
def firstM (σ : Sr) : Dc × Sr :=
 if (nameM L σ).2.has L [61] = true then
  if (nameM L σ).2.step.has L [45] = true then (⟨(nameM L σ).1.name, -(hereM L (nameM L σ).2.step.step.ts).wd, (nameM L σ).1.pos⟩, numS L (nameM L σ).2.step.step)
  else (⟨(nameM L σ).1.name, (hereM L (nameM L σ).2.step.ts).wd, (nameM L σ).1.pos⟩, numS L (nameM L σ).2.step)
 else nameM L σ
def listL (one : Sr → Dc × Sr) : Nat → List Dc → Sr → List Dc × Sr
 | 0, acc, σ => (acc, σ)
 | n + 1, acc, σ => if σ.ok = true then
     if (one σ).2.has L [44] = true then listL one n (acc ++ [(one σ).1]) (one σ).2.step else (acc ++ [(one σ).1], (one σ).2)
   else (acc, σ)
def listM (one : Sr → Dc × Sr) (n : Nat) (acc : List Dc) (σ : Sr) : List Dc × Sr := ((listL L one n acc σ).1, (listL L one n acc σ).2.want L [59])
def roundM (n : Nat) (σ : Sr) : Ex × Sr := ((exM L n 1 0 (σ.want L [40])).1, (exM L n 1 0 (σ.want L [40])).2.want L [41])
def assignM (n : Nat) (p : Int) (σ : Sr) : St × Sr :=
 if ((nameM L σ).2.want L [61]).has L [115, 119, 97, 112] = true then
  let x := nameM L ((((nameM L σ).2.want L [61]).step).want L [40])
  let y := exM L n 1 0 (x.2.want L [44])
  (.mk 2 (nameM L σ).1.name x.1.name [y.1] [] [] p, (y.2.want L [41]).want L [59])
 else
  let y := exM L n 1 0 ((nameM L σ).2.want L [61])
  (.mk 1 (nameM L σ).1.name ⟨#[]⟩ [y.1] [] [] p, y.2.want L [59])
def openM (d : Int) (σ : Sr) : Sr := (if (σ.has L [123] && decide (64 ≤ d)) = true then σ.fail L 3 else σ).want L [123]
mutual
def stM : Nat → Int → Sr → St × Sr
 | 0, _, σ => (.mk 0 ⟨#[]⟩ ⟨#[]⟩ [] [] [] 0, σ)
 | n + 1, d, σ =>
   if σ.has L [105, 102] = true then
    let x := roundM L n σ.step
    let y := stsM n (d + 1) [] (openM L d x.2)
    if y.2.has L [101, 108, 115, 101] = true then
     let z := stsM n (d + 1) [] (openM L d y.2.step)
     (.mk 3 ⟨#[]⟩ ⟨#[]⟩ [x.1] y.1 z.1 (hereM L σ.ts).pos, z.2)
    else (.mk 3 ⟨#[]⟩ ⟨#[]⟩ [x.1] y.1 [] (hereM L σ.ts).pos, y.2)
   else if σ.has L [119, 104, 105, 108, 101] = true then
    let x := roundM L n σ.step
    let y := stsM n (d + 1) [] (openM L d x.2)
    (.mk 4 ⟨#[]⟩ ⟨#[]⟩ [x.1] y.1 [] (hereM L σ.ts).pos, y.2)
   else if σ.has L [108, 111, 99, 107] = true then
    let x := nameM L σ.step
    let y := stsM n (d + 1) [] (openM L d x.2)
    (.mk 5 x.1.name ⟨#[]⟩ [] y.1 [] (hereM L σ.ts).pos, y.2)
   else if σ.has L [112, 114, 105, 110, 116] = true then
    let x := exM L n 1 0 σ.step
    (.mk 6 ⟨#[]⟩ ⟨#[]⟩ [x.1] [] [] (hereM L σ.ts).pos, x.2.want L [59])
   else if σ.has L [115, 107, 105, 112] = true then (.mk 7 ⟨#[]⟩ ⟨#[]⟩ [] [] [] (hereM L σ.ts).pos, σ.step.want L [59])
   else assignM L n (hereM L σ.ts).pos σ
def stsM : Nat → Int → List St → Sr → List St × Sr
 | 0, _, acc, σ => (acc, σ)
 | n + 1, d, acc, σ => if σ.ok = true then if σ.has L [125] = true then (acc, σ.step) else stsM n d (acc ++ [(stM n d σ).1]) (stM n d σ).2 else (acc, σ)
end
def localsM : Nat → List Dc → Sr → List Dc × Sr
 | 0, acc, σ => (acc, σ)
 | n + 1, acc, σ => if σ.has L [108, 111, 99, 97, 108] = true then localsM n (acc ++ (listM L (nameM L) n [] σ.step).1) (listM L (nameM L) n [] σ.step).2 else (acc, σ)
def threadM (n : Nat) (σ : Sr) : Th × Sr :=
 let x := nameM L σ
 let y := localsM L n [] (x.2.want L [123])
 let z := stsM L n 1 [] y.2
 (⟨x.1.name, y.1, z.1, x.1.pos⟩, z.2)
def threadsM : Nat → List Th → Sr → List Th × Sr
 | 0, acc, σ => (acc, σ)
 | n + 1, acc, σ => if σ.ok = true ∧ σ.ts ≠ [] then threadsM n (acc ++ [(threadM L n (σ.want L [116, 104, 114, 101, 97, 100])).1]) (threadM L n (σ.want L [116, 104, 114, 101, 97, 100])).2 else (acc, σ)
def declsM (m : Nat) : Nat → Pg → Sr → Pg × Sr
 | 0, p, σ => (p, σ)
 | n + 1, p, σ => if σ.ok = true then
     if σ.has L [115, 104, 97, 114, 101, 100] = true then declsM m n { p with shared := p.shared ++ (listM L (firstM L) n [] σ.step).1 } (listM L (firstM L) n [] σ.step).2
     else if σ.has L [108, 111, 99, 107] = true then declsM m n { p with locks := p.locks ++ (listM L (nameM L) n [] σ.step).1 } (listM L (nameM L) n [] σ.step).2
     else ({ p with threads := (threadsM L m p.threads σ).1 }, (threadsM L m p.threads σ).2)
   else (p, σ)
end
theorem bad_name {L : Int} {σ : Sr} (h : σ.ok = false) : nameM L σ = (zD, σ) := by unfold nameM; rw [if_neg (by rw [h]; simp), bad_fail h]
theorem bad_listL {L : Int} {one : Sr → Dc × Sr} {σ : Sr} (h : σ.ok = false) : ∀ n acc, listL L one n acc σ = (acc, σ)
 | 0, acc => rfl
 | n + 1, acc => by simp only [listL]; rw [if_neg (by rw [h]; decide)]
theorem bad_ex2 {L : Int} {σ : Sr} (h : σ.ok = false) (n : Nat) (v d : Int) : (exM L n v d σ).2 = σ := by rw [(bad_expr n h).2.2]
theorem bad_open {L : Int} {σ : Sr} (h : σ.ok = false) (d : Int) : openM L d σ = σ := by unfold openM; rw [bad_has h]; simp only [Bool.false_and]; rw [if_neg (by decide), bad_want h]
theorem bad_sts {L : Int} {σ : Sr} (h : σ.ok = false) (n : Nat) (d : Int) (acc : List St) : stsM L n d acc σ = (acc, σ) := by
 cases n with
 | zero => rfl
 | succ n => simp only [stsM]; rw [if_neg (by rw [h]; decide)]
theorem bad_locals {L : Int} {σ : Sr} (h : σ.ok = false) (n : Nat) (acc : List Dc) : localsM L n acc σ = (acc, σ) := by
 cases n with
 | zero => rfl
 | succ n => simp only [localsM]; rw [if_neg (by rw [bad_has h]; decide)]
theorem bad_thread {L : Int} {σ : Sr} (h : σ.ok = false) (n : Nat) : (threadM L n σ).2 = σ := by
 unfold threadM
 rw [bad_name h]; simp only
 rw [bad_want h, bad_locals h, bad_sts h]
theorem bad_threads {L : Int} {σ : Sr} (h : σ.ok = false) (n : Nat) (acc : List Th) : threadsM L n acc σ = (acc, σ) := by
 cases n with
 | zero => rfl
 | succ n => simp only [threadsM]; rw [if_neg (by rw [h]; simp)]
theorem bad_decls {L : Int} {σ : Sr} (h : σ.ok = false) (m n : Nat) (p : Pg) : declsM L m n p σ = (p, σ) := by
 cases n with
 | zero => rfl
 | succ n => simp only [declsM]; rw [if_neg (by rw [h]; decide)]
theorem tail_sub (ts : List Tk) : Sub ts.tail ts := by
 cases ts with
 | nil => exact Sub.refl _
 | cons t r => exact Sub.tail t r
theorem name_sub {L : Int} {ts : List Tk} {d : Dc} {r : List Tk} (h : nameP L ts = .ok d r) : Sub r ts := by
 cases ts with
 | nil => cases h
 | cons t q =>
   simp only [nameP] at h
   split at h
   · cases h; exact Sub.tail t _
   · cases h
theorem num_sub {L : Int} {ts : List Tk} {d : Int} {r : List Tk} (h : numP L ts = .ok d r) : Sub r ts := by
 cases ts with
 | nil => cases h
 | cons t q =>
   simp only [numP] at h
   split at h
   · cases h; exact Sub.tail t _
   · cases h
theorem first_sub {L : Int} {ts : List Tk} {d : Dc} {r : List Tk} (h : firstP L ts = .ok d r) : Sub r ts := by
 unfold firstP at h
 obtain ⟨a, b, h1, h2⟩ := PR.then_eq_ok h
 have k := name_sub h1
 split at h2
 · split at h2
   · obtain ⟨c, e, h3, h4⟩ := PR.then_eq_ok h2
     cases h4
     exact (((num_sub h3).trans (tail_sub _)).trans (tail_sub _)).trans k
   · obtain ⟨c, e, h3, h4⟩ := PR.then_eq_ok h2
     cases h4
     exact ((num_sub h3).trans (tail_sub _)).trans k
 · cases h2; exact k
theorem list_sub {L : Int} {one : List Tk → PR Dc} (ho : ∀ ts d r, one ts = .ok d r → Sub r ts) : ∀ (n : Nat) (acc : List Dc) (ts : List Tk) (l : List Dc) (r : List Tk), listP L one n acc ts = .ok l r → Sub r ts
 | 0, acc, ts, l, r, h => by simp [listP] at h
 | n + 1, acc, ts, l, r, h => by
   simp only [listP] at h
   obtain ⟨a, b, h1, h2⟩ := PR.then_eq_ok h
   have k := ho _ _ _ h1
   split at h2
   · exact ((list_sub ho n _ _ _ _ h2).trans (tail_sub _)).trans k
   · obtain ⟨u, c, h3, h4⟩ := PR.then_eq_ok h2
     cases h4
     exact (need_sub h3).trans k
section
variable {fd : Bs → Int × Bool} {L : Int}
theorem bin_sub {n : Nat} {v d : Int} {ts : List Tk} {e : Ex} {r : List Tk} (h : binE fd L n v d ts = .ok e r) : Sub r ts := (expr_sub n).2.1 _ _ _ _ _ h
theorem paren_sub {n : Nat} {ts : List Tk} {e : Ex} {r : List Tk} (h : parenP fd L n ts = .ok e r) : Sub r ts := by
 unfold parenP at h
 obtain ⟨u, b, h1, h2⟩ := PR.then_eq_ok h
 obtain ⟨a, b2, h3, h4⟩ := PR.then_eq_ok h2
 obtain ⟨u2, b3, h5, h6⟩ := PR.then_eq_ok h4
 cases h6
 exact ((need_sub h5).trans (bin_sub h3)).trans (need_sub h1)
theorem open_sub {d : Int} {ts : List Tk} {u : Unit} {r : List Tk} (h : openP L d ts = .ok u r) : Sub r ts := by
 unfold openP at h
 obtain ⟨u, b, h1, h2⟩ := PR.then_eq_ok h
 split at h2
 · cases h2
 · cases h2; exact need_sub h1
theorem change_sub {n : Nat} {t : Tk} {ts : List Tk} {s : St} {r : List Tk} (h : changeP fd L n t ts = .ok s r) : Sub r ts := by
 unfold changeP at h
 obtain ⟨u, b, h1, h2⟩ := PR.then_eq_ok h
 have k := need_sub h1
 split at h2
 · obtain ⟨a1, b1, g1, h3⟩ := PR.then_eq_ok h2
   obtain ⟨a2, b2, g2, h4⟩ := PR.then_eq_ok h3
   obtain ⟨a3, b3, g3, h5⟩ := PR.then_eq_ok h4
   obtain ⟨a4, b4, g4, h6⟩ := PR.then_eq_ok h5
   obtain ⟨a5, b5, g5, h7⟩ := PR.then_eq_ok h6
   obtain ⟨a6, b6, g6, h8⟩ := PR.then_eq_ok h7
   cases h8
   exact (((((((need_sub g6).trans (need_sub g5)).trans (bin_sub g4)).trans (need_sub g3)).trans (name_sub g2)).trans (need_sub g1)).trans (tail_sub _)).trans k
 · obtain ⟨a1, b1, g1, h3⟩ := PR.then_eq_ok h2
   obtain ⟨a2, b2, g2, h4⟩ := PR.then_eq_ok h3
   cases h4
   exact ((need_sub g2).trans (bin_sub g1)).trans k
theorem stmt_sub : ∀ n : Nat,
 (∀ d ts s r, stmtP fd L n d ts = .ok s r → Sub r ts) ∧ (∀ d acc ts l r, restP fd L n d acc ts = .ok l r → Sub r ts) := by
 intro n
 induction n with
 | zero => exact ⟨fun d ts s r h => by simp [stmtP] at h, fun d acc ts l r h => by simp [restP] at h⟩
 | succ n ih =>
   obtain ⟨i1, i2⟩ := ih
   refine ⟨fun d ts s r h => ?_, fun d acc ts l r h => ?_⟩
   · cases ts with
     | nil => simp [stmtP] at h
     | cons t q =>
       simp only [stmtP] at h
       split at h
       · exact (change_sub h).trans (Sub.tail _ _)
       split at h
       · obtain ⟨a1, b1, g1, h2⟩ := PR.then_eq_ok h
         obtain ⟨a2, b2, g2, h3⟩ := PR.then_eq_ok h2
         obtain ⟨a3, b3, g3, h4⟩ := PR.then_eq_ok h3
         have k := (((i2 _ _ _ _ _ g3).trans (open_sub g2)).trans (paren_sub g1)).trans (Sub.tail t q)
         split at h4
         · obtain ⟨a4, b4, g4, h5⟩ := PR.then_eq_ok h4
           obtain ⟨a5, b5, g5, h6⟩ := PR.then_eq_ok h5
           cases h6
           exact (((i2 _ _ _ _ _ g5).trans (open_sub g4)).trans (tail_sub _)).trans k
         · cases h4; exact k
       split at h
       · obtain ⟨a1, b1, g1, h2⟩ := PR.then_eq_ok h
         obtain ⟨a2, b2, g2, h3⟩ := PR.then_eq_ok h2
         obtain ⟨a3, b3, g3, h4⟩ := PR.then_eq_ok h3
         cases h4
         exact (((i2 _ _ _ _ _ g3).trans (open_sub g2)).trans (paren_sub g1)).trans (Sub.tail t q)
       split at h
       · obtain ⟨a1, b1, g1, h2⟩ := PR.then_eq_ok h
         obtain ⟨a2, b2, g2, h3⟩ := PR.then_eq_ok h2
         obtain ⟨a3, b3, g3, h4⟩ := PR.then_eq_ok h3
         cases h4
         exact (((i2 _ _ _ _ _ g3).trans (open_sub g2)).trans (name_sub g1)).trans (Sub.tail t q)
       split at h
       · obtain ⟨a1, b1, g1, h2⟩ := PR.then_eq_ok h
         obtain ⟨a2, b2, g2, h3⟩ := PR.then_eq_ok h2
         cases h3
         exact ((need_sub g2).trans (bin_sub g1)).trans (Sub.tail t q)
       split at h
       · obtain ⟨a1, b1, g1, h2⟩ := PR.then_eq_ok h
         cases h2
         exact (need_sub g1).trans (Sub.tail t q)
       · cases h
   · simp only [restP] at h
     split at h
     · cases h; exact tail_sub _
     · obtain ⟨a1, b1, g1, h2⟩ := PR.then_eq_ok h
       exact (i2 _ _ _ _ _ h2).trans (i1 _ _ _ _ g1)
theorem locals_sub : ∀ (n : Nat) (acc : List Dc) (ts : List Tk) (l : List Dc) (r : List Tk), localsP L n acc ts = .ok l r → Sub r ts
 | 0, acc, ts, l, r, h => by simp [localsP] at h
 | n + 1, acc, ts, l, r, h => by
   simp only [localsP] at h
   split at h
   · obtain ⟨a1, b1, g1, h2⟩ := PR.then_eq_ok h
     exact ((locals_sub n _ _ _ _ h2).trans (list_sub (fun _ _ _ => name_sub) _ _ _ _ _ g1)).trans (tail_sub _)
   · cases h; exact Sub.refl _
theorem thread_sub {n : Nat} {ts : List Tk} {t : Th} {r : List Tk} (h : threadP fd L n ts = .ok t r) : Sub r ts := by
 unfold threadP at h
 obtain ⟨a1, b1, g1, h2⟩ := PR.then_eq_ok h
 obtain ⟨a2, b2, g2, h3⟩ := PR.then_eq_ok h2
 obtain ⟨a3, b3, g3, h4⟩ := PR.then_eq_ok h3
 obtain ⟨a4, b4, g4, h5⟩ := PR.then_eq_ok h4
 cases h5
 exact ((((stmt_sub n).2 _ _ _ _ _ g4).trans (locals_sub _ _ _ _ _ g3)).trans (open_sub g2)).trans (name_sub g1)
end
open Go.RowKit
set_option linter.unusedVariables false
theorem res_tt {fn : Func} {i j : Tmp} (h : fn.results = #[.tmp i, .tmp j]) {tmps : Array Value} {P : Program} {w : World} {x y : Value} (ha : tmps.getD i undef = x) (hb : tmps.getD j undef = y) : (results fn tmps).run P w = .ok (.tuple #[x, y]) w := by
 have ha' : tmps[i]?.getD undef = x := by simpa using ha
 have hb' : tmps[j]?.getD undef = y := by simpa using hb
 simp [results, h, ha', hb']
theorem rn_bad {c : Par} {w : World} {σ : Sr} (R : Rs c w σ) (hok : σ.ok = false) :
 Calls Tryz.prog 120 #[c.ptr] w fun e w' => Fr c w w' ∧ e = .returned (.tuple #[.string ⟨#[]⟩, .int .i64 0]) ∧ Rs c w' (σ.fail c.L 2) := by
 obtain ⟨t, ht⟩ : ∃ t, t = hereM c.L σ.ts := ⟨_, rfl⟩
 have HH : Hid (∀ W, Rs c W σ → Calls Tryz.prog 121 #[c.ptr] W fun e w' => e = .returned (tkV t) ∧ Below W.heap.size W w') := fun W R => by rw [ht]; exact r_hereS R
 have HO : Hid (∀ W, Rs c W σ → Calls Tryz.prog 29 #[c.ptr] W fun e w' => e = .returned (.bool false) ∧ Below W.heap.size W w') := fun W R => by rw [← hok]; exact r_okS R
 have HF : Hid (∀ W, Rs c W σ → Calls Tryz.prog 122 #[c.ptr, .int .i64 2] W fun e w' => e = .returned (.tuple #[]) ∧ Fr c W w' ∧ Rs c w' (σ.fail c.L 2)) := fun W R => r_fail R 2
 have HS := Lib.hid R.s
 have A := Lib.hid R.as
 have hX := Lib.hid R.lt
 clear ht R hok
 obtain ⟨tk, tx, tw, tp⟩ := t
 unfold tkV Par.ptr at *
 go_enter Tryz.func120, Tryz.ntmps120
 go_wp2_with fail
 go_at_call 121
 refine (HH.out _ (A.out.rs HS.out)).mono ?_
 rintro e w2 ⟨rfl, hb⟩
 have HX1 : Hid (c.X < w2.heap.size) := by have := hb.size; have := hX.out; simp only [Hid]; omega
 have A := Lib.hid (A.out.below hb)
 clear hb
 have A := Lib.hid (A.out.alloc (.cells #[.int .u8 tk, .string tx, .int .i64 tw, .int .i64 tp] 108))
 have T1 := Lib.hid (Own.new w2 108 #[.int .u8 tk, .string tx, .int .i64 tw, .int .i64 tp])
 go_upto_region 2 with (fail)
 obtain ⟨W1, hW1⟩ : ∃ W, W = w2.alloc (.cells #[.int .u8 tk, .string tx, .int .i64 tw, .int .i64 tp] 108) := ⟨_, rfl⟩
 rw [← hW1] at A T1 ⊢
 clear hW1
 go_wp2_with fail
 go_at_call 29
 refine (HO.out _ (A.out.rs HS.out)).mono ?_
 rintro e w3 ⟨rfl, hb⟩
 have A := Lib.hid (A.out.below hb)
 have T1 := Lib.hid (T1.out.below hb)
 clear hb
 go_wp2_with fail
 go_at_call 122
 refine (HF.out _ (A.out.rs HS.out)).mono ?_
 rintro e w4 ⟨rfl, hf, hr⟩
 have A := Lib.hid (A.out.call hf hr)
 clear hf hr
 go_wp2_with fail
 exact bodyPost_ret (res_tt rfl rfl rfl) rfl ⟨A.out.fr, rfl, A.out.rs HS.out⟩
theorem rn_no {c : Par} {w : World} {σ : Sr} (R : Rs c w σ) (hok : σ.ok = true) (hk : ¬ (hereM c.L σ.ts).kind = 1) :
 Calls Tryz.prog 120 #[c.ptr] w fun e w' => Fr c w w' ∧ e = .returned (.tuple #[.string ⟨#[]⟩, .int .i64 0]) ∧ Rs c w' (σ.fail c.L 2) := by
 obtain ⟨t, ht⟩ : ∃ t, t = hereM c.L σ.ts := ⟨_, rfl⟩
 have HH : Hid (∀ W, Rs c W σ → Calls Tryz.prog 121 #[c.ptr] W fun e w' => e = .returned (tkV t) ∧ Below W.heap.size W w') := fun W R => by rw [ht]; exact r_hereS R
 have HO : Hid (∀ W, Rs c W σ → Calls Tryz.prog 29 #[c.ptr] W fun e w' => e = .returned (.bool true) ∧ Below W.heap.size W w') := fun W R => by rw [← hok]; exact r_okS R
 have HF : Hid (∀ W, Rs c W σ → Calls Tryz.prog 122 #[c.ptr, .int .i64 2] W fun e w' => e = .returned (.tuple #[]) ∧ Fr c W w' ∧ Rs c w' (σ.fail c.L 2)) := fun W R => r_fail R 2
 have HS := Lib.hid R.s
 have A := Lib.hid R.as
 have hX := Lib.hid R.lt
 rw [← ht] at hk
 clear ht R hok
 obtain ⟨tk, tx, tw, tp⟩ := t
 simp only at hk
 have h5 : (tk != 1) = true := by simpa [bne] using hk
 have h6 : (tk == 1) = false := by simpa using hk
 unfold tkV Par.ptr at *
 go_enter Tryz.func120, Tryz.ntmps120
 go_wp2_with fail
 go_at_call 121
 refine (HH.out _ (A.out.rs HS.out)).mono ?_
 rintro e w2 ⟨rfl, hb⟩
 have HX1 : Hid (c.X < w2.heap.size) := by have := hb.size; have := hX.out; simp only [Hid]; omega
 have A := Lib.hid (A.out.below hb)
 clear hb
 have A := Lib.hid (A.out.alloc (.cells #[.int .u8 tk, .string tx, .int .i64 tw, .int .i64 tp] 108))
 have T1 := Lib.hid (Own.new w2 108 #[.int .u8 tk, .string tx, .int .i64 tw, .int .i64 tp])
 go_upto_region 2 with (fail)
 obtain ⟨W1, hW1⟩ : ∃ W, W = w2.alloc (.cells #[.int .u8 tk, .string tx, .int .i64 tw, .int .i64 tp] 108) := ⟨_, rfl⟩
 rw [← hW1] at A T1 ⊢
 clear hW1
 go_wp2_with fail
 go_at_call 29
 refine (HO.out _ (A.out.rs HS.out)).mono ?_
 rintro e w3 ⟨rfl, hb⟩
 have A := Lib.hid (A.out.below hb)
 have T1 := Lib.hid (T1.out.below hb)
 clear hb
 have t0 : w3.cell? ⟨w2.heap.size, 0, none⟩ = some (.int .u8 tk) := by rw [cell_of_row _ _ 0 _ _ _ T1.out]; rfl
 go_wp2_with fail
 go_at_call 122
 refine (HF.out _ (A.out.rs HS.out)).mono ?_
 rintro e w4 ⟨rfl, hf, hr⟩
 have A := Lib.hid (A.out.call hf hr)
 clear hf hr
 go_wp2_with fail
 exact bodyPost_ret (res_tt rfl rfl rfl) rfl ⟨A.out.fr, rfl, A.out.rs HS.out⟩
theorem rn_yes {c : Par} {w : World} {σ : Sr} (R : Rs c w σ) (hok : σ.ok = true) (hk : (hereM c.L σ.ts).kind = 1) :
 Calls Tryz.prog 120 #[c.ptr] w fun e w' => Fr c w w' ∧ e = .returned (.tuple #[.string (hereM c.L σ.ts).text, .int .i64 (hereM c.L σ.ts).pos]) ∧ Rs c w' (σ.step) := by
 obtain ⟨t, ht⟩ : ∃ t, t = hereM c.L σ.ts := ⟨_, rfl⟩
 have HH : Hid (∀ W, Rs c W σ → Calls Tryz.prog 121 #[c.ptr] W fun e w' => e = .returned (tkV t) ∧ Below W.heap.size W w') := fun W R => by rw [ht]; exact r_hereS R
 have HO : Hid (∀ W, Rs c W σ → Calls Tryz.prog 29 #[c.ptr] W fun e w' => e = .returned (.bool true) ∧ Below W.heap.size W w') := fun W R => by rw [← hok]; exact r_okS R
 have HS := Lib.hid R.s
 have A := Lib.hid R.as
 have hX := Lib.hid R.lt
 have hne : Hid (σ.step.ts.length + 1 = σ.ts.length) := kind_ne hk (by decide)
 rw [← ht] at hk ⊢
 clear ht R hok
 obtain ⟨tk, tx, tw, tp⟩ := t
 simp only at hk ⊢
 subst hk
 unfold tkV Par.ptr at *
 go_enter Tryz.func120, Tryz.ntmps120
 go_wp2_with fail
 go_at_call 121
 refine (HH.out _ (A.out.rs HS.out)).mono ?_
 rintro e w2 ⟨rfl, hb⟩
 have HX1 : Hid (c.X < w2.heap.size) := by have := hb.size; have := hX.out; simp only [Hid]; omega
 have A := Lib.hid (A.out.below hb)
 clear hb
 have A := Lib.hid (A.out.alloc (.cells #[.int .u8 1, .string tx, .int .i64 tw, .int .i64 tp] 108))
 have T1 := Lib.hid (Own.new w2 108 #[.int .u8 1, .string tx, .int .i64 tw, .int .i64 tp])
 go_upto_region 2 with (fail)
 obtain ⟨W1, hW1⟩ : ∃ W, W = w2.alloc (.cells #[.int .u8 1, .string tx, .int .i64 tw, .int .i64 tp] 108) := ⟨_, rfl⟩
 rw [← hW1] at A T1 ⊢
 clear hW1
 go_wp2_with fail
 go_at_call 29
 refine (HO.out _ (A.out.rs HS.out)).mono ?_
 rintro e w3 ⟨rfl, hb⟩
 have A := Lib.hid (A.out.below hb)
 have T1 := Lib.hid (T1.out.below hb)
 clear hb
 have t0 : w3.cell? ⟨w2.heap.size, 0, none⟩ = some (.int .u8 1) := by rw [cell_of_row _ _ 0 _ _ _ T1.out]; rfl
 obtain ⟨k, x1, xf, hk6, xl, AS⟩ := A.out.open HS.out hne.out
 have AS := Lib.hid AS
 have T2 := T1.out.setX 1 (.int .i64 ((k : Int) + 1)) (x := c.X) (by have := HX1.out; omega)
 have y1 : (w3.setCell ⟨c.X, 1, none⟩ (.int .i64 ((k : Int) + 1))).cell? ⟨w2.heap.size, 1, none⟩ = some (.string tx) := by rw [cell_of_row _ _ 1 _ _ _ T2]; rfl
 have y3 : (w3.setCell ⟨c.X, 1, none⟩ (.int .i64 ((k : Int) + 1))).cell? ⟨w2.heap.size, 3, none⟩ = some (.int .i64 tp) := by rw [cell_of_row _ _ 3 _ _ _ T2]; rfl
 clear T2
 go_upto_region 6 with (fail)
 obtain ⟨W2, hW2⟩ : ∃ W, W = w3.setCell ⟨c.X, 1, none⟩ (.int .i64 ((k : Int) + 1)) := ⟨_, rfl⟩
 rw [← hW2] at AS y1 y3 ⊢
 clear hW2 x1 xf xl t0
 go_quiet (fail)
 go_wp2_with fail
 exact bodyPost_ret (res_tt rfl rfl rfl) rfl ⟨(AS.out.drewN nq).fr, rfl, (AS.out.drewN nq).rs HS.out⟩
theorem r_name {c : Par} {w : World} {σ : Sr} (R : Rs c w σ) : Calls Tryz.prog 120 #[c.ptr] w fun e w' => Fr c w w' ∧ e = .returned (.tuple #[.string (nameM c.L σ).1.name, .int .i64 (nameM c.L σ).1.pos]) ∧ Rs c w' (nameM c.L σ).2 := by
 unfold nameM
 by_cases hok : σ.ok = true
 · by_cases hk : (hereM c.L σ.ts).kind = 1
   · rw [if_pos ⟨hok, hk⟩]; exact rn_yes R hok hk
   · rw [if_neg (fun e => hk e.2)]; exact rn_no R hok hk
 · rw [if_neg (fun e => hok e.1)]; exact rn_bad R (by simpa using hok)
theorem name_wd (L : Int) (σ : Sr) : (nameM L σ).1.wd = 0 := by
 unfold nameM
 split <;> rfl
theorem name_len {L : Int} {σ : Sr} (h : (nameM L σ).2.ok = true) : σ.ok = true ∧ (nameM L σ).2.ts.length + 1 = σ.ts.length := by
 unfold nameM at h ⊢
 split at h
 · rename_i hh
   rw [if_pos hh]
   exact ⟨hh.1, kind_ne hh.2 (by decide)⟩
 · rw [fail_ok (by decide)] at h; cases h
open Go.RowKit
set_option linter.unusedVariables false
theorem As.grown {c : Par} {w W W' : World} {σ : Sr} (A : As c w W σ) {row : Option Nat} (hg : W.grownBy W' row) (hr : ∀ r, row = some r → w.heap.size ≤ r ∧ r ≠ c.X) : As c w W' σ := by
 obtain ⟨k, A, h⟩ := A
 refine ⟨k, ⟨Keep.grown A.fr hg (fun r o hrr ho hs => ?_), (hg.block _ A.lt (fun e => ?_)).trans A.pos, A.le⟩, h⟩
 · have := (hr r hrr).1; have := hs.1; omega
 · exact (hr c.X e.symm).2 rfl
section
variable {L : Int}
def OneOk (one : Sr → Dc × Sr) : Prop := ∀ σ, (one σ).2.ok = true → σ.ok = true ∧ (one σ).2.ts.length + 1 ≤ σ.ts.length
theorem listL_len {one : Sr → Dc × Sr} (ho : OneOk one) : ∀ (n : Nat) (acc : List Dc) (σ : Sr),
 ((listL L one n acc σ).2.ok = true → σ.ok = true ∧ (listL L one n acc σ).1.length + (listL L one n acc σ).2.ts.length ≤ acc.length + σ.ts.length) ∧ (σ.ok = true → (listL L one n acc σ).1.length ≤ acc.length + σ.ts.length + 1) ∧ (σ.ok = true → 0 < n → (listL L one n acc σ).1 ≠ [])
 | 0, acc, σ => ⟨fun h => ⟨h, Nat.le_refl _⟩, fun _ => by show acc.length ≤ _; omega, fun _ h => by omega⟩
 | n + 1, acc, σ => by
   simp only [listL]
   by_cases hok : σ.ok = true
   · rw [if_pos hok]
     by_cases hc : (one σ).2.has L [44] = true
     · rw [if_pos hc]
       obtain ⟨h1, h2⟩ := has_ne hc
       obtain ⟨h3, h4⟩ := ho σ h1
       obtain ⟨i1, i2, _⟩ := listL_len ho n (acc ++ [(one σ).1]) (one σ).2.step
       rw [List.length_append, List.length_singleton] at i1 i2
       refine ⟨fun h => ⟨hok, by have := (i1 h).2; omega⟩, fun _ => by have := i2 h1; omega, fun _ _ => ?_⟩
       intro e
       have key : ∀ (n : Nat) (acc : List Dc) (σ : Sr), acc ≠ [] → (listL L one n acc σ).1 ≠ [] := by
        intro n
        induction n with
        | zero => intro acc σ h; exact h
        | succ n ih =>
          intro acc σ h
          simp only [listL]
          split
          · split
            · exact ih _ _ (by simp)
            · simp
          · exact h
       exact key n _ _ (by simp) e
     · rw [if_neg hc]
       simp only [List.length_append, List.length_singleton]
       exact ⟨fun h => ⟨hok, by have := (ho σ h).2; omega⟩, fun _ => by omega, fun _ _ => by simp⟩
   · rw [if_neg hok]
     exact ⟨fun h => absurd h hok, fun h => absurd h hok, fun h => absurd h hok⟩
theorem listM_len {one : Sr → Dc × Sr} (ho : OneOk one) {n : Nat} {σ : Sr} : ((listM L one n [] σ).2.ok = true → σ.ok = true ∧ (listM L one n [] σ).1.length + (listM L one n [] σ).2.ts.length + 1 ≤ σ.ts.length) ∧ (σ.ok = true → (listM L one n [] σ).1.length ≤ σ.ts.length + 1) ∧ (σ.ok = true → 0 < n → (listM L one n [] σ).1 ≠ []) := by
 obtain ⟨h1, h2, h3⟩ := listL_len (L := L) ho n [] σ
 refine ⟨fun h => ?_, fun h => by have := h2 h; simpa [listM] using this, h3⟩
 obtain ⟨k1, k2⟩ := want_ok (σ := (listL L one n [] σ).2) (s := [59]) h
 obtain ⟨k3, k4⟩ := has_ne k1
 obtain ⟨k5, k6⟩ := h1 k3
 have e : (listM L one n [] σ).2 = (listL L one n [] σ).2.step := k2
 rw [e]
 have e1 : (listM L one n [] σ).1 = (listL L one n [] σ).1 := rfl
 rw [e1]
 exact ⟨k5, by simp only [List.length_nil] at k6; omega⟩
theorem name_one : OneOk (nameM L) := fun σ h => by have := name_len h; exact ⟨this.1, by omega⟩
end
def NmI (c : Par) (w : World) (one : Sr → Dc × Sr) (Y : List Dc × Sr) (m : Nat) (v : Value) (W : World) : Prop :=
 ∃ (σ : Sr) (l : List Dc), As c w W σ ∧ W.ownsRow w.heap.size 66 3 v l.length (dcsL l) ∧ listL c.L one m l σ = Y ∧ (σ.ok = true → σ.ts.length < m) ∧ (σ.ok = true → l.length + σ.ts.length ≤ 65536)
def dcsW (n : Nat) (l : List Dc) (v : Value) (W : World) : Prop := W.ownsRow n 66 3 v l.length (dcsL l)
theorem r_names {c : Par} {w : World} {σ : Sr} {n : Nat} (R : Rs c w σ) (hn : σ.ok = true → σ.ts.length < n) :
 Calls Tryz.prog 71 #[c.ptr] w (RsPost c w (listM c.L (nameM c.L) n [] σ) (dcsW w.heap.size)) := by
 have hsm : σ.ts.length ≤ 65536 := by obtain ⟨k, R, h⟩ := R; rw [h, Par.at_len]; have := R.s.small.1; omega
 have HNM : Hid (∀ W σ, Rs c W σ → Calls Tryz.prog 120 #[c.ptr] W fun e w' => Fr c W w' ∧ e = .returned (.tuple #[.string (nameM c.L σ).1.name, .int .i64 (nameM c.L σ).1.pos]) ∧ Rs c w' (nameM c.L σ).2) := fun W σ R => r_name R
 have HWD : Hid (∀ σ, (nameM c.L σ).1.wd = 0) := fun σ => name_wd c.L σ
 have HON : Hid (OneOk (nameM c.L)) := name_one
 have HTK : Hid (∀ W σ, Rs c W σ → Calls Tryz.prog 69 #[c.ptr, .string ⟨#[44]⟩] W fun e w' => e = .returned (.bool (σ.has c.L [44])) ∧ Fr c W w' ∧ Rs c w' (σ.take c.L [44])) := fun W σ R => r_take R ⟨#[44]⟩
 have HW : Hid (∀ W σ, Rs c W σ → Calls Tryz.prog 123 #[c.ptr, .string ⟨#[59]⟩] W fun e w' => e = .returned (.tuple #[]) ∧ Fr c W w' ∧ Rs c w' (σ.want c.L [59])) := fun W σ R => r_want R ⟨#[59]⟩
 have HOO : Hid (∀ W σ, Rs c W σ → Calls Tryz.prog 29 #[c.ptr] W fun e w' => e = .returned (.bool σ.ok) ∧ Below W.heap.size W w') := fun W σ R => r_okS R
 obtain ⟨one, hone⟩ : ∃ one, one = nameM c.L := ⟨_, rfl⟩
 rw [← hone] at HNM HWD HON ⊢
 have HS := Lib.hid R.s
 have hX := Lib.hid R.lt
 obtain ⟨Y, hY⟩ : ∃ Y, Y = listL c.L one n [] σ := ⟨_, rfl⟩
 have HYY := Lib.hid hY.symm
 have B0 : Hid (NmI c w one Y n (.slice none 0 0) w) := ⟨σ, [], R.as, World.ownsRow_nil _ _ _ _, hY.symm, hn, fun _ => by simpa using hsm⟩
 clear hone hn R hY hsm
 unfold Par.ptr at *
 go_enter Tryz.func71, Tryz.ntmps71
 go_wp2_with fail
 go_loopg [3] n (fun m u W => NmI c w one Y m u W)
 case atStart => exact B0.out
 case round =>
  obtain ⟨σj, l, A1, hrow, hL, hfu, hle⟩ := hrel
  have A := Lib.hid A1
  have ROW := Lib.hid hrow
  have HL := Lib.hid hL
  have HFU := Lib.hid (And.intro hfu hle)
  obtain ⟨oa, cap, rfl, hoa⟩ := row_shape hrow
  clear A1 hrow hL hfu hle hoa
  have HO := Lib.hid (HOO.out _ _ (A.out.rs HS.out))
  by_cases hok : σj.ok = true
  · obtain ⟨m, rfl⟩ : ∃ m, gk = m + 1 := ⟨gk - 1, by have := HFU.out.1 hok; omega⟩
    have HOK := Lib.hid hok
    rw [hok] at HO
    clear hok
    have HN1 : Hid (∀ W, Rs c W σj → Calls Tryz.prog 120 #[.pointer (some ⟨c.X, 0, none⟩)] W fun e w' => Fr c W w' ∧ e = .returned (.tuple #[.string (one σj).1.name, .int .i64 (one σj).1.pos]) ∧ Rs c w' (one σj).2) := fun W R => HNM.out W σj R
    have HONE : Hid ((one σj).2.ok = true → σj.ok = true ∧ (one σj).2.ts.length + 1 ≤ σj.ts.length) := HON.out σj
    have hwd := HWD.out σj
    obtain ⟨Z, hZ⟩ : ∃ Z, Z = one σj := ⟨_, rfl⟩
    have HZ := Lib.hid hZ.symm
    rw [← hZ] at HN1 HONE hwd
    clear hZ
    obtain ⟨⟨nm, wd, ps⟩, σ1⟩ := Z
    simp only at hwd
    subst hwd
    have HT := Lib.hid (fun W => HTK.out W σ1)
    obtain ⟨dd, hdd⟩ : ∃ dd, dd = (⟨nm, 0, ps⟩ : Dc) := ⟨_, rfl⟩
    go_wp2_with fail
    go_at_call 29
    refine (HO.out).mono ?_
    rintro e w1 ⟨rfl, hb⟩
    have A := Lib.hid (A.out.below hb)
    have ROW := Lib.hid (row_below ROW.out hb)
    clear hb HO
    go_wp2_with fail
    go_at_call 120
    refine (HN1.out _ (A.out.rs HS.out)).mono ?_
    rintro e w3 ⟨hf, rfl, hr⟩
    have A := Lib.hid (A.out.call hf hr)
    have ROW := Lib.hid (row_fr ROW.out hf hX.out)
    clear hf hr
    rw [show (⟨⟨nm, 0, ps⟩, σ1⟩ : Dc × Sr) = (dd, σ1) by rw [hdd]] at HZ
    have row3 := ROW.out.alloc (.cells #[.string nm, .int .i64 0, .int .i64 ps] 66)
    have hz3 : w.heap.size ≤ w3.heap.size := Keep.size A.out.fr
    have A := Lib.hid (A.out.alloc (.cells #[.string nm, .int .i64 0, .int .i64 ps] 66))
    have hl6 : l.length ≤ 65536 := by have := HFU.out.2 HOK.out; omega
    obtain ⟨i0, hi, hi0, hi1, hi2⟩ := info_parts infoDc
    have N3 := Own.new w3 66 #[.string nm, .int .i64 0, .int .i64 ps]
    go_wp2_with (at_builtin; refine wpList_append_own _ rfl _ _ 22 rfl w.heap.size 66 i0 _ 3 32 Tryz.underlying22 hi hi0 hi1 hi2 rfl (by decide) _ _ _ rfl row3 ⟨w3.heap.size, 0, none⟩ 1 1 [.string nm, .int .i64 0, .int .i64 ps] rfl rfl (fun j u hj => cells_three N3 j u hj) (by simp [Value.oneCell']) (by simp only [maxLen]; omega) (by omega) (by simp; omega) ?_; intro v' w4 hown' hgrow _; have ROW := Lib.hid hown'; have GR := Lib.hid hgrow; clear hown' hgrow)
    have A := Lib.hid (A.out.grown GR.out (fun r hr => ⟨(row3.lt r hr).1, by have := (row3.lt r hr).1; have := hX.out; omega⟩))
    clear N3 row3 hi hi0 hi1 hi2 GR
    by_cases hc : σ1.has c.L [44] = true
    · have HC := Lib.hid hc
      rw [hc] at HT
      clear hc
      go_wp2_with fail
      go_at_call 69
      refine (HT.out _ (A.out.rs HS.out)).mono ?_
      rintro e w8 ⟨rfl, hf, hr⟩
      have A := Lib.hid (A.out.call hf (show Rs c w8 σ1.step from by rw [show σ1.take c.L [44] = σ1.step by unfold Sr.take; rw [if_pos HC.out]] at hr; exact hr))
      have ROW := Lib.hid (row_fr ROW.out hf hX.out)
      clear hf hr
      go_wp2_with fail
      go_roundg m
      case measure => omega
      case rel =>
       obtain ⟨k1, k2⟩ := has_ne HC.out
       obtain ⟨_, k4⟩ := HONE.out k1
       refine ⟨σ1.step, l ++ [dd], A.out, ?_, ?_, fun h => by have := HFU.out.1 HOK.out; omega, fun h => by have := HFU.out.2 HOK.out; rw [List.length_append, List.length_singleton]; omega⟩
       · have := ROW.out; rw [hdd, dcsL_snoc, List.length_append]; exact this
       · rw [← HL.out]
         conv => rhs; simp only [listL]
         rw [if_pos HOK.out, HZ.out, if_pos HC.out]
    · have HC := Lib.hid (show σ1.has c.L [44] = false by simpa using hc)
      have HFIN : Hid (Y = (l ++ [dd], σ1)) := by
       rw [Hid, ← HL.out]
       simp only [listL]
       rw [if_pos HOK.out, HZ.out, if_neg hc]
      rw [HC.out] at HT
      clear hc
      go_wp2_with fail
      go_at_call 69
      refine (HT.out _ (A.out.rs HS.out)).mono ?_
      rintro e w8 ⟨rfl, hf, hr⟩
      have A := Lib.hid (A.out.call hf (show Rs c w8 σ1 from by rw [show σ1.take c.L [44] = σ1 by unfold Sr.take; rw [if_neg (by rw [HC.out]; decide)]] at hr; exact hr))
      have ROW := Lib.hid (row_fr ROW.out hf hX.out)
      clear hf hr
      go_wp2_with fail
      go_at_call 123
      refine (HW.out _ _ (A.out.rs HS.out)).mono ?_
      rintro e w9 ⟨rfl, hf, hr⟩
      have A := Lib.hid (A.out.call hf hr)
      have ROW := Lib.hid (row_fr ROW.out hf hX.out)
      clear hf hr
      go_wp2_with fail
      go_ret
      show RsPost c w ((listL c.L one n [] σ).1, (listL c.L one n [] σ).2.want c.L [59]) _ _ _
      rw [HYY.out, HFIN.out]
      exact ⟨A.out.fr, _, rfl, by have := ROW.out; show World.ownsRow _ _ _ _ _ _ _; rw [hdd, dcsL_snoc, List.length_append]; exact this, A.out.rs HS.out⟩
  · have hb : σj.ok = false := by simpa using hok
    rw [hb] at HO
    have HFIN : Hid (Y = (l, σj)) := by
     rw [Hid, ← HL.out]
     exact bad_listL hb gk l
    clear hok hb
    go_wp2_with fail
    go_at_call 29
    refine (HO.out).mono ?_
    rintro e w1 ⟨rfl, hb⟩
    have A := Lib.hid (A.out.below hb)
    have ROW := Lib.hid (row_below ROW.out hb)
    clear hb HO
    go_wp2_with fail
    go_at_call 123
    refine (HW.out _ _ (A.out.rs HS.out)).mono ?_
    rintro e w9 ⟨rfl, hf, hr⟩
    have A := Lib.hid (A.out.call hf hr)
    have ROW := Lib.hid (row_fr ROW.out hf hX.out)
    clear hf hr
    go_wp2_with fail
    go_ret
    show RsPost c w ((listL c.L one n [] σ).1, (listL c.L one n [] σ).2.want c.L [59]) _ _ _
    rw [HYY.out, HFIN.out]
    exact ⟨A.out.fr, _, rfl, ROW.out, A.out.rs HS.out⟩
end Go.Proofs.YtfogkobgjojpiaaGreatDoor

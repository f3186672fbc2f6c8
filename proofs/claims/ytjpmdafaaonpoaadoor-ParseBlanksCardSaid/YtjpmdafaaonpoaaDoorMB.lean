/- The proof, part 2: texts that belong together, in one. -/
import Derived.Test.YtjpmdafaaonpoaaDoorMA
import Derived.WalkKit
import Derived.Below
import Derived.MapKept
import Derived.WalkLawsBesides
import Derived.Laws.EntriesVeiled
import Derived.Laws.Rows
import Derived.Deep.QuietTactic
import Derived.BigQuiet
import Derived.BigRegion
import Derived.Outline
import Derived.Deep.DeepCutAuto
import Derived.Deep.RegionHeld3
import Derived.OrdersHeld
import Derived.Shelf.Abstract
import Derived.Deep.RegionHeldLaw
import Derived.Deep.LoopGhost
import Derived.Laws.OwnMore
namespace Go.Proofs.YtjpmdafaaonpoaaDoor
set_option linter.unusedVariables false
theorem PR.then_eq_ok {α β : Type} {x : PR α} {f : α → List Tk → PR β} {b : β} {r : List Tk} (h : x.then f = .ok b r) : ∃ a q, x = .ok a q ∧ f a q = .ok b r := by
  cases x with
  | ok a q => exact ⟨a, q, rfl, h⟩
  | bad p q => cases h
theorem need_ok {L : Int} {s : Bs} {ts : List Tk} {u : Unit} {r : List Tk} (h : need L s ts = .ok u r) : isT s ts = true ∧ r = ts.tail ∧ r.length + 1 = ts.length := by
  unfold need at h
  split at h
  · rename_i hi
    cases h
    cases ts with
    | nil => cases hi
    | cons t r => exact ⟨hi, rfl, rfl⟩
  · cases h
theorem isT_tail {s : Bs} {ts : List Tk} (h : isT s ts = true) : ts.tail.length + 1 = ts.length := by
  cases ts with
  | nil => cases h
  | cons t r => rfl
theorem name_ok {L : Int} {ts : List Tk} {d : Dc} {r : List Tk} (h : nameP L ts = .ok d r) : r.length + 1 = ts.length := by
  cases ts with
  | nil => cases h
  | cons t q =>
    simp only [nameP] at h
    split at h
    · cases h; rfl
    · cases h
theorem num_ok {L : Int} {ts : List Tk} {d : Int} {r : List Tk} (h : numP L ts = .ok d r) : r.length + 1 = ts.length := by
  cases ts with
  | nil => cases h
  | cons t q =>
    simp only [numP] at h
    split at h
    · cases h; rfl
    · cases h
section
variable {fnd : Bs → Int × Bool} {L : Int}
theorem expr_short : ∀ n : Nat,
    (∀ d ts e r, opnd fnd L n d ts = .ok e r → r.length < ts.length) ∧
    (∀ v d ts e r, binE fnd L n v d ts = .ok e r → r.length < ts.length) ∧
    (∀ v d l ts e r, binL fnd L n v d l ts = .ok e r → r.length ≤ ts.length) := by
  intro n
  induction n with
  | zero => exact ⟨fun d ts e r h => by simp [opnd] at h, fun v d ts e r h => by simp [binE] at h, fun v d l ts e r h => by simp [binL] at h⟩
  | succ n ih =>
    obtain ⟨i1, i2, i3⟩ := ih
    refine ⟨fun d ts e r h => ?_, fun v d ts e r h => ?_, fun v d l ts e r h => ?_⟩
    · cases ts with
      | nil => simp [opnd] at h
      | cons t q =>
        simp only [opnd] at h
        split at h
        · cases h; simp
        split at h
        · cases h; simp
        split at h
        · split at h
          · cases h
          · obtain ⟨a, b, h1, h2⟩ := PR.then_eq_ok h
            cases h2
            have := i1 _ _ _ _ h1
            simp; omega
        split at h
        · split at h
          · cases h
          · obtain ⟨a, b, h1, h2⟩ := PR.then_eq_ok h
            cases h2
            have := i1 _ _ _ _ h1
            simp; omega
        split at h
        · split at h
          · cases h
          · obtain ⟨a, b, h1, h2⟩ := PR.then_eq_ok h
            obtain ⟨u, c, h3, h4⟩ := PR.then_eq_ok h2
            cases h4
            have := i2 _ _ _ _ _ h1
            have := (need_ok h3).2.2
            simp; omega
        · cases h
    · simp only [binE] at h
      obtain ⟨a, b, h1, h2⟩ := PR.then_eq_ok h
      have := i1 _ _ _ _ h1
      have := i3 _ _ _ _ _ _ h2
      omega
    · cases ts with
      | nil => simp only [binL] at h; cases h; simp
      | cons t q =>
        simp only [binL] at h
        split at h
        · obtain ⟨a, b, h1, h2⟩ := PR.then_eq_ok h
          have := i2 _ _ _ _ _ h1
          have := i3 _ _ _ _ _ _ h2
          simp; omega
        · cases h; simp
theorem opnd_short {n : Nat} {d : Int} {ts : List Tk} {e : Ex} {r : List Tk} (h : opnd fnd L n d ts = .ok e r) : r.length < ts.length := (expr_short n).1 _ _ _ _ h
theorem binE_short {n : Nat} {v d : Int} {ts : List Tk} {e : Ex} {r : List Tk} (h : binE fnd L n v d ts = .ok e r) : r.length < ts.length := (expr_short n).2.1 _ _ _ _ _ h
theorem binL_short {n : Nat} {v d : Int} {l : Ex} {ts : List Tk} {e : Ex} {r : List Tk} (h : binL fnd L n v d l ts = .ok e r) : r.length ≤ ts.length := (expr_short n).2.2 _ _ _ _ _ _ h
theorem list_short {one : List Tk → PR Dc} (ho : ∀ ts d r, one ts = .ok d r → r.length < ts.length) : ∀ (n : Nat) (acc : List Dc) (ts : List Tk) (l : List Dc) (r : List Tk), listP L one n acc ts = .ok l r → r.length < ts.length
  | 0, acc, ts, l, r, h => by simp [listP] at h
  | n + 1, acc, ts, l, r, h => by
    simp only [listP] at h
    obtain ⟨a, b, h1, h2⟩ := PR.then_eq_ok h
    have k := ho _ _ _ h1
    split at h2
    · rename_i hi
      have := list_short ho n _ _ _ _ h2
      have := isT_tail hi
      omega
    · obtain ⟨u, c, h3, h4⟩ := PR.then_eq_ok h2
      cases h4
      have := (need_ok h3).2.2
      omega
theorem nameP_short {ts : List Tk} {d : Dc} {r : List Tk} (h : nameP L ts = .ok d r) : r.length < ts.length := by have := name_ok h; omega
theorem firstP_short {ts : List Tk} {d : Dc} {r : List Tk} (h : firstP L ts = .ok d r) : r.length < ts.length := by
  unfold firstP at h
  obtain ⟨a, b, h1, h2⟩ := PR.then_eq_ok h
  have k := nameP_short h1
  split at h2
  · rename_i i1
    have q1 := isT_tail i1
    split at h2
    · rename_i i2
      have q2 := isT_tail i2
      obtain ⟨c, e, h3, h4⟩ := PR.then_eq_ok h2
      have := num_ok h3
      cases h4
      omega
    · obtain ⟨c, e, h3, h4⟩ := PR.then_eq_ok h2
      have := num_ok h3
      cases h4
      omega
  · cases h2; exact k
theorem paren_short {n : Nat} {ts : List Tk} {e : Ex} {r : List Tk} (h : parenP fnd L n ts = .ok e r) : r.length < ts.length := by
  unfold parenP at h
  obtain ⟨u, b, h1, h2⟩ := PR.then_eq_ok h
  obtain ⟨a, c, h3, h4⟩ := PR.then_eq_ok h2
  obtain ⟨u', d, h5, h6⟩ := PR.then_eq_ok h4
  cases h6
  have := (need_ok h1).2.2
  have := binE_short h3
  have := (need_ok h5).2.2
  omega
theorem open_short {d : Int} {ts : List Tk} {u : Unit} {r : List Tk} (h : openP L d ts = .ok u r) : r.length + 1 = ts.length := by
  unfold openP at h
  obtain ⟨a, b, h1, h2⟩ := PR.then_eq_ok h
  split at h2
  · cases h2
  · cases h2
    exact (need_ok h1).2.2
theorem change_short {n : Nat} {t : Tk} {ts : List Tk} {s : St} {r : List Tk} (h : changeP fnd L n t ts = .ok s r) : r.length < ts.length := by
  unfold changeP at h
  obtain ⟨u, b, h1, h2⟩ := PR.then_eq_ok h
  have := (need_ok h1).2.2
  split at h2
  · rename_i i1
    have := isT_tail i1
    obtain ⟨u1, b1, h3, h4⟩ := PR.then_eq_ok h2
    obtain ⟨u2, b2, h5, h6⟩ := PR.then_eq_ok h4
    obtain ⟨u3, b3, h7, h8⟩ := PR.then_eq_ok h6
    obtain ⟨u4, b4, h9, h10⟩ := PR.then_eq_ok h8
    obtain ⟨u5, b5, h11, h12⟩ := PR.then_eq_ok h10
    obtain ⟨u6, b6, h13, h14⟩ := PR.then_eq_ok h12
    cases h14
    have := (need_ok h3).2.2
    have := name_ok h5
    have := (need_ok h7).2.2
    have := binE_short h9
    have := (need_ok h11).2.2
    have := (need_ok h13).2.2
    omega
  · obtain ⟨u4, b4, h9, h10⟩ := PR.then_eq_ok h2
    obtain ⟨u5, b5, h11, h12⟩ := PR.then_eq_ok h10
    cases h12
    have := binE_short h9
    have := (need_ok h11).2.2
    omega
theorem stmt_short : ∀ n : Nat,
    (∀ d ts s r, stmtP fnd L n d ts = .ok s r → r.length < ts.length) ∧
    (∀ d acc ts l r, restP fnd L n d acc ts = .ok l r → r.length < ts.length) := by
  intro n
  induction n with
  | zero => exact ⟨fun d ts s r h => by simp [stmtP] at h, fun d acc ts l r h => by simp [restP] at h⟩
  | succ n ih =>
    obtain ⟨i1, i2⟩ := ih
    refine ⟨fun d ts s r h => ?_, fun d acc ts l r h => ?_⟩
    · cases ts with
      | nil => simp [stmtP] at h
      | cons t q =>
        simp only [stmtP] at h
        rw [List.length_cons]
        split at h
        · have := change_short h; omega
        split at h
        · obtain ⟨u1, b1, h1, h2⟩ := PR.then_eq_ok h
          obtain ⟨u2, b2, h3, h4⟩ := PR.then_eq_ok h2
          obtain ⟨u3, b3, h5, h6⟩ := PR.then_eq_ok h4
          have := paren_short h1
          have := open_short h3
          have := i2 _ _ _ _ _ h5
          split at h6
          · rename_i hi
            have := isT_tail hi
            obtain ⟨u4, b4, h7, h8⟩ := PR.then_eq_ok h6
            obtain ⟨u5, b5, h9, h10⟩ := PR.then_eq_ok h8
            have := open_short h7
            have := i2 _ _ _ _ _ h9
            cases h10
            omega
          · cases h6; omega
        split at h
        · obtain ⟨u1, b1, h1, h2⟩ := PR.then_eq_ok h
          obtain ⟨u2, b2, h3, h4⟩ := PR.then_eq_ok h2
          obtain ⟨u3, b3, h5, h6⟩ := PR.then_eq_ok h4
          have := paren_short h1
          have := open_short h3
          have := i2 _ _ _ _ _ h5
          cases h6; omega
        split at h
        · obtain ⟨u1, b1, h1, h2⟩ := PR.then_eq_ok h
          obtain ⟨u2, b2, h3, h4⟩ := PR.then_eq_ok h2
          obtain ⟨u3, b3, h5, h6⟩ := PR.then_eq_ok h4
          have := name_ok h1
          have := open_short h3
          have := i2 _ _ _ _ _ h5
          cases h6; omega
        split at h
        · obtain ⟨u1, b1, h1, h2⟩ := PR.then_eq_ok h
          obtain ⟨u2, b2, h3, h4⟩ := PR.then_eq_ok h2
          have := binE_short h1
          have := (need_ok h3).2.2
          cases h4; omega
        split at h
        · obtain ⟨u1, b1, h1, h2⟩ := PR.then_eq_ok h
          have := (need_ok h1).2.2
          cases h2; omega
        · cases h
    · simp only [restP] at h
      split at h
      · rename_i hi
        cases h
        have := isT_tail hi
        omega
      · obtain ⟨a, b, h1, h2⟩ := PR.then_eq_ok h
        have := i1 _ _ _ _ h1
        have := i2 _ _ _ _ _ h2
        omega
theorem stmtP_short {n : Nat} {d : Int} {ts : List Tk} {s : St} {r : List Tk} (h : stmtP fnd L n d ts = .ok s r) : r.length < ts.length := (stmt_short n).1 _ _ _ _ h
theorem restP_short {n : Nat} {d : Int} {acc : List St} {ts : List Tk} {l : List St} {r : List Tk} (h : restP fnd L n d acc ts = .ok l r) : r.length < ts.length := (stmt_short n).2 _ _ _ _ _ h
theorem locals_short : ∀ (n : Nat) (acc : List Dc) (ts : List Tk) (l : List Dc) (r : List Tk), localsP L n acc ts = .ok l r → r.length ≤ ts.length
  | 0, acc, ts, l, r, h => by simp [localsP] at h
  | n + 1, acc, ts, l, r, h => by
    simp only [localsP] at h
    split at h
    · rename_i hi
      have := isT_tail hi
      obtain ⟨a, b, h1, h2⟩ := PR.then_eq_ok h
      have := list_short (L := L) (fun _ _ _ h => nameP_short h) n _ _ _ _ h1
      have := locals_short n _ _ _ _ h2
      omega
    · cases h; exact Nat.le_refl _
theorem thread_short {n : Nat} {ts : List Tk} {t : Th} {r : List Tk} (h : threadP fnd L n ts = .ok t r) : r.length < ts.length := by
  unfold threadP at h
  obtain ⟨u1, b1, h1, h2⟩ := PR.then_eq_ok h
  obtain ⟨u2, b2, h3, h4⟩ := PR.then_eq_ok h2
  obtain ⟨u3, b3, h5, h6⟩ := PR.then_eq_ok h4
  obtain ⟨u4, b4, h7, h8⟩ := PR.then_eq_ok h6
  cases h8
  have := name_ok h1
  have := open_short h3
  have := locals_short _ _ _ _ _ h5
  have := restP_short h7
  omega
end
end Go.Proofs.YtjpmdafaaonpoaaDoor

namespace Go.Proofs.YtjpmdafaaonpoaaDoor
set_option linter.unusedVariables false
def Tk.bare (t : Tk) : Int × ByteArray × Int := (t.kind, t.text, t.wd)
mutual
def Ex.bare : Ex → Ex
  | .mk k o w n ks _ => .mk k o w n (exsBare ks) 0
def exsBare : List Ex → List Ex
  | [] => []
  | e :: r => e.bare :: exsBare r
end
mutual
def St.bare : St → St
  | .mk k n o e b l _ => .mk k n o (exsBare e) (stsBare b) (stsBare l) 0
def stsBare : List St → List St
  | [] => []
  | e :: r => e.bare :: stsBare r
end
def Dc.bare (d : Dc) : Dc := ⟨d.name, d.wd, 0⟩
def Th.bare (t : Th) : Th := ⟨t.name, t.locals.map Dc.bare, stsBare t.body, 0⟩
def Pg.bare (p : Pg) : Pg := ⟨p.shared.map Dc.bare, p.locks.map Dc.bare, p.threads.map Th.bare⟩
theorem bare_name {a b : Dc} (h : a.bare = b.bare) : a.name = b.name := by
  have k := congrArg Dc.name h
  exact k
theorem stsBare_snoc (l : List St) (s : St) : stsBare (l ++ [s]) = stsBare l ++ [s.bare] := by
  induction l with
  | nil => simp [stsBare]
  | cons x r ih => simp [stsBare, ih]
def Like (ts us : List Tk) : Prop := ts.map Tk.bare = us.map Tk.bare
theorem Like.len {ts us : List Tk} (h : Like ts us) : ts.length = us.length := by simpa using congrArg List.length h
theorem Like.tail {ts us : List Tk} (h : Like ts us) : Like ts.tail us.tail := by
  have := congrArg List.tail h
  simpa [Like] using this
theorem Like.refl (ts : List Tk) : Like ts ts := rfl
theorem Like.cases {ts us : List Tk} (h : Like ts us) : (ts = [] ∧ us = []) ∨ ∃ t r u q, ts = t :: r ∧ us = u :: q ∧ t.kind = u.kind ∧ t.text = u.text ∧ t.wd = u.wd ∧ Like r q := by
  cases ts with
  | nil =>
    cases us with
    | nil => exact .inl ⟨rfl, rfl⟩
    | cons u q => cases h
  | cons t r =>
    cases us with
    | nil => cases h
    | cons u q =>
      unfold Like at h
      simp only [List.map_cons, List.cons.injEq, Tk.bare, Prod.mk.injEq] at h
      exact .inr ⟨t, r, u, q, rfl, rfl, h.1.1, h.1.2.1, h.1.2.2, h.2⟩
theorem Like.isT {ts us : List Tk} (h : Like ts us) (s : Bs) : isT s ts = isT s us := by
  rcases h.cases with ⟨rfl, rfl⟩ | ⟨t, r, u, q, rfl, rfl, h1, h2, h3, h4⟩
  · rfl
  · simp only [Proofs.YtjpmdafaaonpoaaDoor.isT, Tk.tx, h2]
/-- Two results are one, but for places. -/
def PR.sim {α β : Type} (S : α → β → Prop) : PR α → PR β → Prop
  | .ok a r, .ok b q => S a b ∧ Like r q
  | .bad _ r, .bad _ s => r = s
  | _, _ => False
theorem sim_then {α β γ δ : Type} {S : α → β → Prop} {T : γ → δ → Prop} {x : PR α} {y : PR β} {f : α → List Tk → PR γ} {g : β → List Tk → PR δ} (h : x.sim S y) (hf : ∀ a r b q, S a b → Like r q → (f a r).sim T (g b q)) : (x.then f).sim T (y.then g) := by
  cases x with
  | ok a r => cases y with
    | ok b q => exact hf a r b q h.1 h.2
    | bad p s => exact h.elim
  | bad p s => cases y with
    | ok b q => exact h.elim
    | bad p' s' => exact h
section
variable {fnd : Bs → Int × Bool} {L L' : Int}
theorem sim_need {ts us : List Tk} (h : Like ts us) (s : Bs) : (need L s ts).sim (fun _ _ => True) (need L' s us) := by
  unfold need
  rw [h.isT s]
  split
  · exact ⟨trivial, h.tail⟩
  · rfl
theorem sim_name {ts us : List Tk} (h : Like ts us) : (nameP L ts).sim (fun a b => a.bare = b.bare) (nameP L' us) := by
  rcases h.cases with ⟨rfl, rfl⟩ | ⟨t, r, u, q, rfl, rfl, h1, h2, h3, h4⟩
  · rfl
  · simp only [nameP, h1]
    split
    · exact ⟨by simp [Dc.bare, h2], h4⟩
    · rfl
theorem sim_num {ts us : List Tk} (h : Like ts us) : (numP L ts).sim (fun a b => a = b) (numP L' us) := by
  rcases h.cases with ⟨rfl, rfl⟩ | ⟨t, r, u, q, rfl, rfl, h1, h2, h3, h4⟩
  · rfl
  · simp only [numP, h1]
    split
    · exact ⟨h3, h4⟩
    · rfl
def exSim (a b : Ex) : Prop := a.bare = b.bare
theorem sim_expr : ∀ n : Nat,
    (∀ d ts us, Like ts us → (opnd fnd L n d ts).sim exSim (opnd fnd L' n d us)) ∧
    (∀ v d ts us, Like ts us → (binE fnd L n v d ts).sim exSim (binE fnd L' n v d us)) ∧
    (∀ v d l m ts us, exSim l m → Like ts us → (binL fnd L n v d l ts).sim exSim (binL fnd L' n v d m us)) := by
  intro n
  induction n with
  | zero => exact ⟨fun d ts us h => by simp [opnd, PR.sim], fun v d ts us h => by simp [binE, PR.sim], fun v d l m ts us hl h => by simp [binL, PR.sim]⟩
  | succ n ih =>
    obtain ⟨i1, i2, i3⟩ := ih
    refine ⟨fun d ts us h => ?_, fun v d ts us h => ?_, fun v d l m ts us hl h => ?_⟩
    · rcases h.cases with ⟨rfl, rfl⟩ | ⟨t, r, u, q, rfl, rfl, h1, h2, h3, h4⟩
      · simp [opnd, PR.sim]
      · have h2' : t.tx = u.tx := by simp only [Tk.tx, h2]
        simp only [opnd, h1, h2, h2', h3]
        by_cases c : u.kind = 3
        · rw [if_pos c, if_pos c]; exact ⟨by simp [exSim, Ex.bare], h4⟩
        rw [if_neg c, if_neg c]; clear c
        by_cases c : u.kind = 1
        · rw [if_pos c, if_pos c]; exact ⟨by simp [exSim, Ex.bare], h4⟩
        rw [if_neg c, if_neg c]; clear c
        by_cases c : u.tx = [45]
        · rw [if_pos c, if_pos c]
          by_cases k : d = 64
          · rw [if_pos k, if_pos k]; rfl
          · rw [if_neg k, if_neg k]
            refine sim_then (i1 _ _ _ h4) fun a r b q hs hl => ⟨?_, hl⟩
            have hs' : a.bare = b.bare := hs
            simp [exSim, unX, Ex.bare, exsBare, hs']
        rw [if_neg c, if_neg c]; clear c
        by_cases c : u.tx = [33]
        · rw [if_pos c, if_pos c]
          by_cases k : d = 64
          · rw [if_pos k, if_pos k]; rfl
          · rw [if_neg k, if_neg k]
            refine sim_then (i1 _ _ _ h4) fun a r b q hs hl => ⟨?_, hl⟩
            have hs' : a.bare = b.bare := hs
            simp [exSim, unX, Ex.bare, exsBare, hs']
        rw [if_neg c, if_neg c]; clear c
        by_cases c : u.tx = [40]
        · rw [if_pos c, if_pos c]
          by_cases k : d = 64
          · rw [if_pos k, if_pos k]; rfl
          · rw [if_neg k, if_neg k]
            exact sim_then (i2 _ _ _ _ h4) fun a r b q hs hl => sim_then (sim_need hl _) fun _ _ _ _ _ hl => ⟨hs, hl⟩
        rw [if_neg c, if_neg c]
        rfl
    · simp only [binE]
      exact sim_then (i1 _ _ _ h) fun a r b q hs hl => i3 _ _ _ _ _ _ hs hl
    · rcases h.cases with ⟨rfl, rfl⟩ | ⟨t, r, u, q, rfl, rfl, h1, h2, h3, h4⟩
      · simp only [binL]; exact ⟨hl, Like.refl _⟩
      · have h2' : t.tx = u.tx := by simp only [Tk.tx, h2]
        simp only [binL, h2']
        by_cases c : (fnd u.tx).2 = true ∧ v ≤ levelI (fnd u.tx).1
        · rw [if_pos c, if_pos c]
          refine sim_then (i2 _ _ _ _ h4) fun a r b q hs hl' => i3 _ _ _ _ _ _ ?_ hl'
          unfold exSim at hs hl ⊢
          simp [biX, Ex.bare, exsBare, hs, hl]
        · rw [if_neg c, if_neg c]; exact ⟨hl, h⟩
theorem sim_list {one : List Tk → PR Dc} {one' : List Tk → PR Dc} (ho : ∀ ts us, Like ts us → (one ts).sim (fun a b => a.bare = b.bare) (one' us)) : ∀ (n : Nat) (acc acc' : List Dc) (ts us : List Tk), acc.map Dc.bare = acc'.map Dc.bare → Like ts us →
    (listP L one n acc ts).sim (fun a b => a.map Dc.bare = b.map Dc.bare) (listP L' one' n acc' us)
  | 0, acc, acc', ts, us, ha, h => by simp [listP, PR.sim]
  | n + 1, acc, acc', ts, us, ha, h => by
    simp only [listP]
    refine sim_then (ho _ _ h) fun a r b q hs hl => ?_
    rw [hl.isT]
    have h2 : (acc ++ [a]).map Dc.bare = (acc' ++ [b]).map Dc.bare := by simp [ha, hs]
    split
    · exact sim_list ho n _ _ _ _ h2 hl.tail
    · exact sim_then (sim_need hl _) fun _ _ _ _ _ hl => ⟨h2, hl⟩
theorem sim_first {ts us : List Tk} (h : Like ts us) : (firstP L ts).sim (fun a b => a.bare = b.bare) (firstP L' us) := by
  unfold firstP
  refine sim_then (sim_name h) fun a r b q hs hl => ?_
  have hn : a.name = b.name := by
    have := bare_name hs
    exact this
  rw [hl.isT]
  split
  · rw [hl.tail.isT]
    split
    · exact sim_then (sim_num hl.tail.tail) fun x r y q e hl => ⟨by simp [Dc.bare, hn, e], hl⟩
    · exact sim_then (sim_num hl.tail) fun x r y q e hl => ⟨by simp [Dc.bare, hn, e], hl⟩
  · exact ⟨hs, hl⟩
theorem sim_paren (n : Nat) {ts us : List Tk} (h : Like ts us) : (parenP fnd L n ts).sim exSim (parenP fnd L' n us) :=
  sim_then (sim_need h _) fun _ _ _ _ _ hl => sim_then ((sim_expr n).2.1 _ _ _ _ hl) fun a r b q hs hl => sim_then (sim_need hl _) fun _ _ _ _ _ hl => ⟨hs, hl⟩
theorem sim_open (d : Int) {ts us : List Tk} (h : Like ts us) : (openP L d ts).sim (fun _ _ => True) (openP L' d us) := by
  refine sim_then (sim_need h _) fun _ _ _ _ _ hl => ?_
  split
  · rfl
  · exact ⟨trivial, hl⟩
def stSim (a b : St) : Prop := a.bare = b.bare
def stsSim (a b : List St) : Prop := stsBare a = stsBare b
theorem sim_change (n : Nat) {t u : Tk} (ht : t.text = u.text) {ts us : List Tk} (h : Like ts us) : (changeP fnd L n t ts).sim stSim (changeP fnd L' n u us) := by
  refine sim_then (sim_need h _) fun _ r _ q _ hl => ?_
  rw [hl.isT]
  split
  · refine sim_then (sim_need hl.tail _) fun _ _ _ _ _ hl => sim_then (sim_name hl) fun o _ o' _ hn hl => sim_then (sim_need hl _) fun _ _ _ _ _ hl => sim_then ((sim_expr n).2.1 _ _ _ _ hl) fun a r b q hs hl => sim_then (sim_need hl _) fun _ _ _ _ _ hl => sim_then (sim_need hl _) fun _ _ _ _ _ hl => ⟨?_, hl⟩
    have h1 : o.name = o'.name := bare_name hn
    have h2 : a.bare = b.bare := hs
    simp [stSim, St.bare, exsBare, stsBare, ht, h1, h2]
  · refine sim_then ((sim_expr n).2.1 _ _ _ _ hl) fun a r b q hs hl => sim_then (sim_need hl _) fun _ _ _ _ _ hl => ⟨?_, hl⟩
    have h2 : a.bare = b.bare := hs
    simp [stSim, St.bare, exsBare, stsBare, ht, h2]
theorem sim_stmt : ∀ n : Nat,
    (∀ d ts us, Like ts us → (stmtP fnd L n d ts).sim stSim (stmtP fnd L' n d us)) ∧
    (∀ d acc acc' ts us, stsSim acc acc' → Like ts us → (restP fnd L n d acc ts).sim stsSim (restP fnd L' n d acc' us)) := by
  intro n
  induction n with
  | zero => exact ⟨fun d ts us h => by simp [stmtP, PR.sim], fun d acc acc' ts us ha h => by simp [restP, PR.sim]⟩
  | succ n ih =>
    obtain ⟨i1, i2⟩ := ih
    refine ⟨fun d ts us h => ?_, fun d acc acc' ts us ha h => ?_⟩
    · rcases h.cases with ⟨rfl, rfl⟩ | ⟨t, r, u, q, rfl, rfl, h1, h2, h3, h4⟩
      · simp [stmtP, PR.sim]
      · have h2' : t.tx = u.tx := by simp only [Tk.tx, h2]
        simp only [stmtP, h1, h2']
        split
        · exact sim_change n h2 h4
        split
        · refine sim_then (sim_paren n h4) fun e _ e' _ he hl => sim_then (sim_open _ hl) fun _ _ _ _ _ hl => sim_then (i2 _ _ _ _ _ rfl hl) fun b _ b' _ hb hl => ?_
          have he' : e.bare = e'.bare := he
          have hb' : stsBare b = stsBare b' := hb
          rw [hl.isT]
          split
          · refine sim_then (sim_open _ hl.tail) fun _ _ _ _ _ hl => sim_then (i2 _ _ _ _ _ rfl hl) fun c _ c' _ hc hl => ⟨?_, hl⟩
            have hc' : stsBare c = stsBare c' := hc
            simp [stSim, St.bare, exsBare, he', hb', hc']
          · exact ⟨by simp [stSim, St.bare, exsBare, stsBare, he', hb'], hl⟩
        split
        · refine sim_then (sim_paren n h4) fun e _ e' _ he hl => sim_then (sim_open _ hl) fun _ _ _ _ _ hl => sim_then (i2 _ _ _ _ _ rfl hl) fun b _ b' _ hb hl => ⟨?_, hl⟩
          have he' : e.bare = e'.bare := he
          have hb' : stsBare b = stsBare b' := hb
          simp [stSim, St.bare, exsBare, stsBare, he', hb']
        split
        · refine sim_then (sim_name h4) fun o _ o' _ hn hl => sim_then (sim_open _ hl) fun _ _ _ _ _ hl => sim_then (i2 _ _ _ _ _ rfl hl) fun b _ b' _ hb hl => ⟨?_, hl⟩
          have h1 : o.name = o'.name := bare_name hn
          have hb' : stsBare b = stsBare b' := hb
          simp [stSim, St.bare, exsBare, stsBare, h1, hb']
        split
        · refine sim_then ((sim_expr n).2.1 _ _ _ _ h4) fun a r b q hs hl => sim_then (sim_need hl _) fun _ _ _ _ _ hl => ⟨?_, hl⟩
          have h2 : a.bare = b.bare := hs
          simp [stSim, St.bare, exsBare, stsBare, h2]
        split
        · exact sim_then (sim_need h4 _) fun _ _ _ _ _ hl => ⟨by simp [stSim, St.bare], hl⟩
        · rfl
    · simp only [restP]
      rw [h.isT]
      split
      · exact ⟨ha, h.tail⟩
      · refine sim_then (i1 _ _ _ h) fun s _ s' _ hs hl => i2 _ _ _ _ _ ?_ hl
        unfold stsSim at ha ⊢
        have hs' : s.bare = s'.bare := hs
        rw [stsBare_snoc, stsBare_snoc, ha, hs']
theorem sim_locals : ∀ (n : Nat) (acc acc' : List Dc) (ts us : List Tk), acc.map Dc.bare = acc'.map Dc.bare → Like ts us → (localsP L n acc ts).sim (fun a b => a.map Dc.bare = b.map Dc.bare) (localsP L' n acc' us)
  | 0, acc, acc', ts, us, ha, h => by simp [localsP, PR.sim]
  | n + 1, acc, acc', ts, us, ha, h => by
    simp only [localsP]
    rw [h.isT]
    split
    · exact sim_then (sim_list (fun _ _ h => sim_name h) n _ _ _ _ rfl h.tail) fun a r b q hs hl => sim_locals n _ _ _ _ (by simp [ha, hs]) hl
    · exact ⟨ha, h⟩
theorem sim_thread (n : Nat) {ts us : List Tk} (h : Like ts us) : (threadP fnd L n ts).sim (fun a b => a.bare = b.bare) (threadP fnd L' n us) := by
  refine sim_then (sim_name h) fun o _ o' _ hn hl => sim_then (sim_open _ hl) fun _ _ _ _ _ hl => sim_then (sim_locals n _ _ _ _ rfl hl) fun b _ b' _ hb hl => sim_then ((sim_stmt n).2 _ _ _ _ _ rfl hl) fun c _ c' _ hc hl => ⟨?_, hl⟩
  have h1 : o.name = o'.name := bare_name hn
  have hc' : stsBare c = stsBare c' := hc
  simp [Th.bare, h1, hb, hc']
theorem sim_threads : ∀ (n : Nat) (acc acc' : List Th) (ts us : List Tk), acc.map Th.bare = acc'.map Th.bare → Like ts us → (threadsP fnd L n acc ts).sim (fun a b => a.map Th.bare = b.map Th.bare) (threadsP fnd L' n acc' us)
  | 0, acc, acc', ts, us, ha, h => by simp [threadsP, PR.sim]
  | n + 1, acc, acc', ts, us, ha, h => by
    simp only [threadsP]
    rw [h.isT]
    split
    · exact sim_then (sim_thread n h.tail) fun a r b q hs hl => sim_threads n _ _ _ _ (by simp [ha, hs]) hl
    · exact ⟨ha, h⟩
theorem sim_decls : ∀ (n : Nat) (p p' : Pg) (ts us : List Tk), p.bare = p'.bare → Like ts us → (declsP L n p ts).sim (fun a b => a.bare = b.bare) (declsP L' n p' us)
  | 0, acc, acc', ts, us, ha, h => by simp [declsP, PR.sim]
  | n + 1, p, p', ts, us, ha, h => by
    simp only [declsP]
    have ha1 : p.shared.map Dc.bare = p'.shared.map Dc.bare := congrArg Pg.shared ha
    have ha2 : p.locks.map Dc.bare = p'.locks.map Dc.bare := congrArg Pg.locks ha
    have ha3 : p.threads.map Th.bare = p'.threads.map Th.bare := congrArg Pg.threads ha
    rw [h.isT, h.isT]
    split
    · exact sim_then (sim_list (fun _ _ h => sim_first h) n _ _ _ _ rfl h.tail) fun a r b q hs hl => sim_decls n _ _ _ _ (by simp [Pg.bare, ha1, ha2, ha3, hs]) hl
    split
    · exact sim_then (sim_list (fun _ _ h => sim_name h) n _ _ _ _ rfl h.tail) fun a r b q hs hl => sim_decls n _ _ _ _ (by simp [Pg.bare, ha1, ha2, ha3, hs]) hl
    · exact ⟨ha, h⟩
theorem sim_prog (n : Nat) {ts us : List Tk} (h : Like ts us) : (progP fnd L n ts).sim (fun a b => a.bare = b.bare) (progP fnd L' n us) := by
  refine sim_then (sim_decls n _ _ _ _ rfl h) fun a _ b _ hs hl => sim_then (sim_threads n _ _ _ _ rfl hl) fun c _ d _ ht hl => ⟨?_, hl⟩
  have ha1 : a.shared.map Dc.bare = b.shared.map Dc.bare := congrArg Pg.shared hs
  have ha2 : a.locks.map Dc.bare = b.locks.map Dc.bare := congrArg Pg.locks hs
  simp [Pg.bare, ha1, ha2, ht]
theorem sim_end {α β : Type} {S : α → β → Prop} {x : PR α} {y : PR β} (h : x.sim S y) : (endP x).sim S (endP y) := by
  refine sim_then h fun a r b q hs hl => ?_
  rcases hl.cases with ⟨rfl, rfl⟩ | ⟨t, r, u, q, rfl, rfl, _⟩
  · exact ⟨hs, rfl⟩
  · rfl
theorem sim_parse {ts us : List Tk} (h : Like ts us) : (parseP fnd L ts).sim (fun a b => a.bare = b.bare) (parseP fnd L' us) := by
  unfold parseP fuel
  rw [h.len]
  exact sim_end (sim_prog _ h)
theorem sim_exprP {ts us : List Tk} (h : Like ts us) : (exprP fnd L ts).sim exSim (exprP fnd L' us) := by
  unfold exprP fuel
  rw [h.len]
  exact sim_end ((sim_expr _).2.1 _ _ _ _ h)
end
end Go.Proofs.YtjpmdafaaonpoaaDoor

namespace Go.Proofs.YtjpmdafaaonpoaaDoor
open Go.RowKit
set_option linter.unusedVariables false

/-- Where a list of so many cells a part begins: nil and what is empty may lie anywhere. -/
def AtP (R : Nat → Prop) (e : Bool) (a : Option Addr) (F : Nat → Nat → Prop) : Prop := e = true ∨ ∃ b o, a = some ⟨b, o, none⟩ ∧ R b ∧ F b o
mutual
def exIn (R : Nat → Prop) (w : World) : Ex → Nat → Nat → Prop
  | .mk k o wd nm ks p, b, off =>
    w.cell? ⟨b, off, none⟩ = some (.int .u8 k) ∧ w.cell? ⟨b, off + 1, none⟩ = some (.int .u8 o) ∧ w.cell? ⟨b, off + 2, none⟩ = some (.int .i64 wd) ∧ w.cell? ⟨b, off + 3, none⟩ = some (.string nm) ∧
    (∃ a cap, w.cell? ⟨b, off + 4, none⟩ = some (.slice a ks.length cap) ∧ (ks.isEmpty = true ∨ ∃ g q, a = some ⟨g, q, none⟩ ∧ R g ∧ exsIn R w ks g q)) ∧ w.cell? ⟨b, off + 5, none⟩ = some (.int .i64 p)
def exsIn (R : Nat → Prop) (w : World) : List Ex → Nat → Nat → Prop
  | [], _, _ => True
  | e :: r, b, off => exIn R w e b off ∧ exsIn R w r b (off + 6)
end
/-- A slice that begins there reads as these expressions. -/
def exsAt (R : Nat → Prop) (w : World) (l : List Ex) (a : Option Addr) : Prop := l.isEmpty = true ∨ ∃ g q, a = some ⟨g, q, none⟩ ∧ R g ∧ exsIn R w l g q
mutual
def stIn (R : Nat → Prop) (w : World) : St → Nat → Nat → Prop
  | .mk k n o e b l p, g, off =>
    w.cell? ⟨g, off, none⟩ = some (.int .u8 k) ∧ w.cell? ⟨g, off + 1, none⟩ = some (.string n) ∧ w.cell? ⟨g, off + 2, none⟩ = some (.string o) ∧
    (∃ a cap, w.cell? ⟨g, off + 3, none⟩ = some (.slice a e.length cap) ∧ exsAt R w e a) ∧
    (∃ a cap, w.cell? ⟨g, off + 4, none⟩ = some (.slice a b.length cap) ∧ (b.isEmpty = true ∨ ∃ g q, a = some ⟨g, q, none⟩ ∧ R g ∧ stsIn R w b g q)) ∧
    (∃ a cap, w.cell? ⟨g, off + 5, none⟩ = some (.slice a l.length cap) ∧ (l.isEmpty = true ∨ ∃ g q, a = some ⟨g, q, none⟩ ∧ R g ∧ stsIn R w l g q)) ∧ w.cell? ⟨g, off + 6, none⟩ = some (.int .i64 p)
def stsIn (R : Nat → Prop) (w : World) : List St → Nat → Nat → Prop
  | [], _, _ => True
  | s :: r, b, off => stIn R w s b off ∧ stsIn R w r b (off + 7)
end
def stsAt (R : Nat → Prop) (w : World) (l : List St) (a : Option Addr) : Prop := l.isEmpty = true ∨ ∃ g q, a = some ⟨g, q, none⟩ ∧ R g ∧ stsIn R w l g q
def dcIn (w : World) (d : Dc) (b off : Nat) : Prop := w.cell? ⟨b, off, none⟩ = some (.string d.name) ∧ w.cell? ⟨b, off + 1, none⟩ = some (.int .i64 d.wd) ∧ w.cell? ⟨b, off + 2, none⟩ = some (.int .i64 d.pos)
def dcsIn (w : World) : List Dc → Nat → Nat → Prop
  | [], _, _ => True
  | d :: r, b, off => dcIn w d b off ∧ dcsIn w r b (off + 3)
def dcsAt (R : Nat → Prop) (w : World) (l : List Dc) (a : Option Addr) : Prop := l.isEmpty = true ∨ ∃ g q, a = some ⟨g, q, none⟩ ∧ R g ∧ dcsIn w l g q
def thIn (R : Nat → Prop) (w : World) (t : Th) (b off : Nat) : Prop :=
  w.cell? ⟨b, off, none⟩ = some (.string t.name) ∧ (∃ a cap, w.cell? ⟨b, off + 1, none⟩ = some (.slice a t.locals.length cap) ∧ dcsAt R w t.locals a) ∧
  (∃ a cap, w.cell? ⟨b, off + 2, none⟩ = some (.slice a t.body.length cap) ∧ stsAt R w t.body a) ∧ w.cell? ⟨b, off + 3, none⟩ = some (.int .i64 t.pos)
def thsIn (R : Nat → Prop) (w : World) : List Th → Nat → Nat → Prop
  | [], _, _ => True
  | t :: r, b, off => thIn R w t b off ∧ thsIn R w r b (off + 4)
def thsAt (R : Nat → Prop) (w : World) (l : List Th) (a : Option Addr) : Prop := l.isEmpty = true ∨ ∃ g q, a = some ⟨g, q, none⟩ ∧ R g ∧ thsIn R w l g q

/-- What lies in a block that is chosen lies there still. -/
def Stays (R : Nat → Prop) (w w' : World) : Prop := ∀ b o v, R b → w.cell? ⟨b, o, none⟩ = some v → w'.cell? ⟨b, o, none⟩ = some v
theorem Stays.refl (R : Nat → Prop) (w : World) : Stays R w w := fun _ _ _ _ h => h
theorem Stays.trans {R : Nat → Prop} {a b c : World} (h : Stays R a b) (k : Stays R b c) : Stays R a c := fun g o v hg hv => k g o v hg (h g o v hg hv)
theorem Stays.mono {R R' : Nat → Prop} {w w' : World} (h : Stays R' w w') (hm : ∀ b, R b → R' b) : Stays R w w' := fun g o v hg hv => h g o v (hm g hg) hv
section
variable {R R' : Nat → Prop} {w w' : World}
theorem exsIn_stays (hw : Stays R w w') (hm : ∀ b, R b → R' b) : ∀ (l : List Ex) (b off : Nat), R b → exsIn R w l b off → exsIn R' w' l b off := by
  intro l
  induction l using Exs.ind with
  | h0 => intro b off _ _; exact trivial
  | h1 k o wd nm ks p r ih1 ih2 =>
    intro b off hb h
    obtain ⟨⟨c0, c1, c2, c3, ⟨a, cap, c4, h4⟩, c5⟩, hr⟩ := h
    refine ⟨⟨hw _ _ _ hb c0, hw _ _ _ hb c1, hw _ _ _ hb c2, hw _ _ _ hb c3, ⟨a, cap, hw _ _ _ hb c4, ?_⟩, hw _ _ _ hb c5⟩, ih2 b _ hb hr⟩
    rcases h4 with h4 | ⟨g, q, rfl, hg, hi⟩
    · exact .inl h4
    · exact .inr ⟨g, q, rfl, hm g hg, ih1 g q hg hi⟩
theorem exsAt_stays (hw : Stays R w w') (hm : ∀ b, R b → R' b) {l : List Ex} {a : Option Addr} (h : exsAt R w l a) : exsAt R' w' l a := by
  rcases h with h | ⟨g, q, rfl, hg, hi⟩
  · exact .inl h
  · exact .inr ⟨g, q, rfl, hm g hg, exsIn_stays hw hm l g q hg hi⟩
theorem stsIn_stays (hw : Stays R w w') (hm : ∀ b, R b → R' b) : ∀ (l : List St) (b off : Nat), R b → stsIn R w l b off → stsIn R' w' l b off := by
  intro l
  induction l using Sts.ind with
  | h0 => intro b off _ _; exact trivial
  | h1 k n o e bd el p r ih1 ih2 ih3 =>
    intro b off hb h
    obtain ⟨⟨c0, c1, c2, ⟨a3, cap3, c3, h3⟩, ⟨a4, cap4, c4, h4⟩, ⟨a5, cap5, c5, h5⟩, c6⟩, hr⟩ := h
    refine ⟨⟨hw _ _ _ hb c0, hw _ _ _ hb c1, hw _ _ _ hb c2, ⟨a3, cap3, hw _ _ _ hb c3, exsAt_stays hw hm h3⟩, ⟨a4, cap4, hw _ _ _ hb c4, ?_⟩, ⟨a5, cap5, hw _ _ _ hb c5, ?_⟩, hw _ _ _ hb c6⟩, ih3 b _ hb hr⟩
    · rcases h4 with h4 | ⟨g, q, rfl, hg, hi⟩
      · exact .inl h4
      · exact .inr ⟨g, q, rfl, hm g hg, ih1 g q hg hi⟩
    · rcases h5 with h5 | ⟨g, q, rfl, hg, hi⟩
      · exact .inl h5
      · exact .inr ⟨g, q, rfl, hm g hg, ih2 g q hg hi⟩
theorem stsAt_stays (hw : Stays R w w') (hm : ∀ b, R b → R' b) {l : List St} {a : Option Addr} (h : stsAt R w l a) : stsAt R' w' l a := by
  rcases h with h | ⟨g, q, rfl, hg, hi⟩
  · exact .inl h
  · exact .inr ⟨g, q, rfl, hm g hg, stsIn_stays hw hm l g q hg hi⟩
theorem dcsIn_stays (hw : Stays R w w') : ∀ (l : List Dc) (b off : Nat), R b → dcsIn w l b off → dcsIn w' l b off
  | [], _, _, _, _ => trivial
  | d :: r, b, off, hb, ⟨⟨c0, c1, c2⟩, hr⟩ => ⟨⟨hw _ _ _ hb c0, hw _ _ _ hb c1, hw _ _ _ hb c2⟩, dcsIn_stays hw r b _ hb hr⟩
theorem dcsAt_stays (hw : Stays R w w') (hm : ∀ b, R b → R' b) {l : List Dc} {a : Option Addr} (h : dcsAt R w l a) : dcsAt R' w' l a := by
  rcases h with h | ⟨g, q, rfl, hg, hi⟩
  · exact .inl h
  · exact .inr ⟨g, q, rfl, hm g hg, dcsIn_stays hw l g q hg hi⟩
theorem thsIn_stays (hw : Stays R w w') (hm : ∀ b, R b → R' b) : ∀ (l : List Th) (b off : Nat), R b → thsIn R w l b off → thsIn R' w' l b off
  | [], _, _, _, _ => trivial
  | t :: r, b, off, hb, ⟨⟨c0, ⟨a1, cap1, c1, h1⟩, ⟨a2, cap2, c2, h2⟩, c3⟩, hr⟩ =>
    ⟨⟨hw _ _ _ hb c0, ⟨a1, cap1, hw _ _ _ hb c1, dcsAt_stays hw hm h1⟩, ⟨a2, cap2, hw _ _ _ hb c2, stsAt_stays hw hm h2⟩, hw _ _ _ hb c3⟩, thsIn_stays hw hm r b _ hb hr⟩
theorem thsAt_stays (hw : Stays R w w') (hm : ∀ b, R b → R' b) {l : List Th} {a : Option Addr} (h : thsAt R w l a) : thsAt R' w' l a := by
  rcases h with h | ⟨g, q, rfl, hg, hi⟩
  · exact .inl h
  · exact .inr ⟨g, q, rfl, hm g hg, thsIn_stays hw hm l g q hg hi⟩
end
theorem cell_lt {w : World} {a : Addr} {v : Value} (h : w.cell? a = some v) : a.block < w.heap.size := by
  apply Nat.lt_of_not_le
  intro hn
  simp [World.cell?, Array.getElem?_eq_none hn] at h
/-- What is read lies in blocks that are there. -/
theorem exsAt_in {R : Nat → Prop} {w : World} {l : List Ex} {a : Option Addr} (h : exsAt R w l a) : exsAt (fun b => R b ∧ b < w.heap.size) w l a := by
  have key : ∀ (l : List Ex) (b off : Nat), exsIn R w l b off → exsIn (fun b => R b ∧ b < w.heap.size) w l b off := by
    intro l
    induction l using Exs.ind with
    | h0 => intro b off _; exact trivial
    | h1 k o wd nm ks p r ih1 ih2 =>
      intro b off h
      obtain ⟨⟨c0, c1, c2, c3, ⟨a, cap, c4, h4⟩, c5⟩, hr⟩ := h
      refine ⟨⟨c0, c1, c2, c3, ⟨a, cap, c4, ?_⟩, c5⟩, ih2 b _ hr⟩
      rcases h4 with h4 | ⟨g, q, rfl, hg, hi⟩
      · exact .inl h4
      · cases ks with
        | nil => exact .inl rfl
        | cons x xs =>
          refine .inr ⟨g, q, rfl, ⟨hg, ?_⟩, ih1 g q hi⟩
          obtain ⟨k', o', wd', nm', ks', p'⟩ := x
          exact cell_lt hi.1.1
  rcases h with h | ⟨g, q, rfl, hg, hi⟩
  · exact .inl h
  · cases l with
    | nil => exact .inl rfl
    | cons x xs =>
      refine .inr ⟨g, q, rfl, ⟨hg, ?_⟩, key _ g q hi⟩
      obtain ⟨k', o', wd', nm', ks', p'⟩ := x
      exact cell_lt hi.1.1
theorem exsAt_mono {R R' : Nat → Prop} {w : World} {l : List Ex} {a : Option Addr} (h : exsAt R w l a) (hm : ∀ b, R b → R' b) : exsAt R' w l a := exsAt_stays (Stays.refl R w) hm h
/-- One part of a list, by its number. -/
theorem exsIn_get {R : Nat → Prop} {w : World} : ∀ {l : List Ex} {b off : Nat} (i : Nat) (x : Ex), exsIn R w l b off → l[i]? = some x → exIn R w x b (off + i * 6)
  | e :: r, b, off, 0, x, h, hx => by cases hx; exact h.1
  | e :: r, b, off, i + 1, x, h, hx => by
    have := exsIn_get i x h.2 hx
    rw [show off + (i + 1) * 6 = off + 6 + i * 6 by omega]; exact this
theorem stsIn_get {R : Nat → Prop} {w : World} : ∀ {l : List St} {b off : Nat} (i : Nat) (x : St), stsIn R w l b off → l[i]? = some x → stIn R w x b (off + i * 7)
  | e :: r, b, off, 0, x, h, hx => by cases hx; exact h.1
  | e :: r, b, off, i + 1, x, h, hx => by
    have := stsIn_get i x h.2 hx
    rw [show off + (i + 1) * 7 = off + 7 + i * 7 by omega]; exact this
theorem dcsIn_get {w : World} : ∀ {l : List Dc} {b off : Nat} (i : Nat) (x : Dc), dcsIn w l b off → l[i]? = some x → dcIn w x b (off + i * 3)
  | e :: r, b, off, 0, x, h, hx => by cases hx; exact h.1
  | e :: r, b, off, i + 1, x, h, hx => by
    have := dcsIn_get i x h.2 hx
    rw [show off + (i + 1) * 3 = off + 3 + i * 3 by omega]; exact this
theorem thsIn_get {R : Nat → Prop} {w : World} : ∀ {l : List Th} {b off : Nat} (i : Nat) (x : Th), thsIn R w l b off → l[i]? = some x → thIn R w x b (off + i * 4)
  | e :: r, b, off, 0, x, h, hx => by cases hx; exact h.1
  | e :: r, b, off, i + 1, x, h, hx => by
    have := thsIn_get i x h.2 hx
    rw [show off + (i + 1) * 4 = off + 4 + i * 4 by omega]; exact this
/-- The values of the cells of a list's parts. -/
def exCells (e : Ex) (a : Option Addr) (cap : Nat) : List Value := [.int .u8 e.kind, .int .u8 e.op, .int .i64 e.wd, .string e.name, .slice a e.kids.length cap, .int .i64 e.pos]
def stCells (s : St) (a3 : Option Addr) (c3 : Nat) (a4 : Option Addr) (c4 : Nat) (a5 : Option Addr) (c5 : Nat) : List Value := [.int .u8 s.kind, .string s.name, .string s.other, .slice a3 s.e.length c3, .slice a4 s.body.length c4, .slice a5 s.els.length c5, .int .i64 s.pos]
def dcCells (d : Dc) : List Value := [.string d.name, .int .i64 d.wd, .int .i64 d.pos]
def thCells (t : Th) (a1 : Option Addr) (c1 : Nat) (a2 : Option Addr) (c2 : Nat) : List Value := [.string t.name, .slice a1 t.locals.length c1, .slice a2 t.body.length c2, .int .i64 t.pos]
/-- A value is an expression, a statement. -/
def exV (R : Nat → Prop) (w : World) (e : Ex) (vs : List Value) : Prop := ∃ a cap, vs = exCells e a cap ∧ exsAt R w e.kids a
def stV (R : Nat → Prop) (w : World) (s : St) (vs : List Value) : Prop := ∃ a3 c3 a4 c4 a5 c5, vs = stCells s a3 c3 a4 c4 a5 c5 ∧ exsAt R w s.e a3 ∧ stsAt R w s.body a4 ∧ stsAt R w s.els a5
def thV (R : Nat → Prop) (w : World) (t : Th) (vs : List Value) : Prop := ∃ a1 c1 a2 c2, vs = thCells t a1 c1 a2 c2 ∧ dcsAt R w t.locals a1 ∧ stsAt R w t.body a2
theorem exV_stays {R R' : Nat → Prop} {w w' : World} (hw : Stays R w w') (hm : ∀ b, R b → R' b) {e : Ex} {vs : List Value} (h : exV R w e vs) : exV R' w' e vs := by
  obtain ⟨a, c, rfl, h⟩ := h
  exact ⟨a, c, rfl, exsAt_stays hw hm h⟩
theorem stV_stays {R R' : Nat → Prop} {w w' : World} (hw : Stays R w w') (hm : ∀ b, R b → R' b) {e : St} {vs : List Value} (h : stV R w e vs) : stV R' w' e vs := by
  obtain ⟨a3, c3, a4, c4, a5, c5, rfl, h3, h4, h5⟩ := h
  exact ⟨a3, c3, a4, c4, a5, c5, rfl, exsAt_stays hw hm h3, stsAt_stays hw hm h4, stsAt_stays hw hm h5⟩
theorem thV_stays {R R' : Nat → Prop} {w w' : World} (hw : Stays R w w') (hm : ∀ b, R b → R' b) {e : Th} {vs : List Value} (h : thV R w e vs) : thV R' w' e vs := by
  obtain ⟨a3, c3, a4, c4, rfl, h3, h4⟩ := h
  exact ⟨a3, c3, a4, c4, rfl, dcsAt_stays hw hm h3, stsAt_stays hw hm h4⟩
/-- Cells behind one another. -/
def cellsIn (w : World) (b off : Nat) (vs : List Value) : Prop := ∀ j v, vs[j]? = some v → w.cell? ⟨b, off + j, none⟩ = some v
theorem exIn_of {R : Nat → Prop} {w : World} {e : Ex} {vs : List Value} {b off : Nat} (h : exV R w e vs) (hc : cellsIn w b off vs) : exIn R w e b off := by
  obtain ⟨a, c, rfl, h⟩ := h
  obtain ⟨k, o, wd, nm, ks, p⟩ := e
  exact ⟨hc 0 _ rfl, hc 1 _ rfl, hc 2 _ rfl, hc 3 _ rfl, ⟨a, c, hc 4 _ rfl, h⟩, hc 5 _ rfl⟩
theorem exV_of {R : Nat → Prop} {w : World} {e : Ex} {b off : Nat} (h : exIn R w e b off) : ∃ a cap, cellsIn w b off (exCells e a cap) ∧ exsAt R w e.kids a := by
  obtain ⟨k, o, wd, nm, ks, p⟩ := e
  obtain ⟨c0, c1, c2, c3, ⟨a, cap, c4, h⟩, c5⟩ := h
  refine ⟨a, cap, fun j v hj => ?_, h⟩
  match j, hj with
  | 0, hj => cases hj; exact c0
  | 1, hj => cases hj; exact c1
  | 2, hj => cases hj; exact c2
  | 3, hj => cases hj; exact c3
  | 4, hj => cases hj; exact c4
  | 5, hj => cases hj; exact c5
  | j + 6, hj => simp [exCells] at hj
theorem stIn_of {R : Nat → Prop} {w : World} {e : St} {vs : List Value} {b off : Nat} (h : stV R w e vs) (hc : cellsIn w b off vs) : stIn R w e b off := by
  obtain ⟨a3, c3, a4, c4, a5, c5, rfl, h3, h4, h5⟩ := h
  obtain ⟨k, n, o, e, bd, el, p⟩ := e
  exact ⟨hc 0 _ rfl, hc 1 _ rfl, hc 2 _ rfl, ⟨a3, c3, hc 3 _ rfl, h3⟩, ⟨a4, c4, hc 4 _ rfl, h4⟩, ⟨a5, c5, hc 5 _ rfl, h5⟩, hc 6 _ rfl⟩
theorem thIn_of {R : Nat → Prop} {w : World} {e : Th} {vs : List Value} {b off : Nat} (h : thV R w e vs) (hc : cellsIn w b off vs) : thIn R w e b off := by
  obtain ⟨a3, c3, a4, c4, rfl, h3, h4⟩ := h
  exact ⟨hc 0 _ rfl, ⟨a3, c3, hc 1 _ rfl, h3⟩, ⟨a4, c4, hc 2 _ rfl, h4⟩, hc 3 _ rfl⟩
theorem dcIn_of {w : World} {d : Dc} {b off : Nat} (hc : cellsIn w b off (dcCells d)) : dcIn w d b off := ⟨hc 0 _ rfl, hc 1 _ rfl, hc 2 _ rfl⟩
theorem cellsIn_app {w : World} {b off : Nat} {xs ys : List Value} (h : cellsIn w b off (xs ++ ys)) : cellsIn w b off xs ∧ cellsIn w b (off + xs.length) ys := by
  refine ⟨fun j v hj => h j v ?_, fun j v hj => ?_⟩
  · rw [List.getElem?_append_left (List.getElem?_eq_some_iff.1 hj).1]; exact hj
  · have := h (xs.length + j) v (by rw [List.getElem?_append_right (by omega)]; simpa using hj)
    rw [← Nat.add_assoc] at this; exact this
/-- Cells behind one another are these parts. -/
def exsV (R : Nat → Prop) (w : World) : List Ex → List Value → Prop
  | [], xs => xs = []
  | e :: r, xs => ∃ vs ys, xs = vs ++ ys ∧ exV R w e vs ∧ exsV R w r ys
def stsV (R : Nat → Prop) (w : World) : List St → List Value → Prop
  | [], xs => xs = []
  | e :: r, xs => ∃ vs ys, xs = vs ++ ys ∧ stV R w e vs ∧ stsV R w r ys
def thsV (R : Nat → Prop) (w : World) : List Th → List Value → Prop
  | [], xs => xs = []
  | e :: r, xs => ∃ vs ys, xs = vs ++ ys ∧ thV R w e vs ∧ thsV R w r ys
def dcsL (l : List Dc) : List Value := l.flatMap dcCells
section
variable {R R' : Nat → Prop} {w w' : World}
theorem exsV_snoc : ∀ {l : List Ex} {xs vs : List Value} {e : Ex}, exsV R w l xs → exV R w e vs → exsV R w (l ++ [e]) (xs ++ vs)
  | [], xs, vs, e, h, he => by cases h; exact ⟨vs, [], by simp, he, rfl⟩
  | x :: r, xs, vs, e, ⟨us, ys, h1, h2, h3⟩, he => ⟨us, ys ++ vs, by rw [h1, List.append_assoc], h2, exsV_snoc h3 he⟩
theorem stsV_snoc : ∀ {l : List St} {xs vs : List Value} {e : St}, stsV R w l xs → stV R w e vs → stsV R w (l ++ [e]) (xs ++ vs)
  | [], xs, vs, e, h, he => by cases h; exact ⟨vs, [], by simp, he, rfl⟩
  | x :: r, xs, vs, e, ⟨us, ys, h1, h2, h3⟩, he => ⟨us, ys ++ vs, by rw [h1, List.append_assoc], h2, stsV_snoc h3 he⟩
theorem thsV_snoc : ∀ {l : List Th} {xs vs : List Value} {e : Th}, thsV R w l xs → thV R w e vs → thsV R w (l ++ [e]) (xs ++ vs)
  | [], xs, vs, e, h, he => by cases h; exact ⟨vs, [], by simp, he, rfl⟩
  | x :: r, xs, vs, e, ⟨us, ys, h1, h2, h3⟩, he => ⟨us, ys ++ vs, by rw [h1, List.append_assoc], h2, thsV_snoc h3 he⟩
theorem exsV_stays (hw : Stays R w w') (hm : ∀ b, R b → R' b) : ∀ {l : List Ex} {xs : List Value}, exsV R w l xs → exsV R' w' l xs
  | [], xs, h => h
  | x :: r, xs, ⟨us, ys, h1, h2, h3⟩ => ⟨us, ys, h1, exV_stays hw hm h2, exsV_stays hw hm h3⟩
theorem stsV_stays (hw : Stays R w w') (hm : ∀ b, R b → R' b) : ∀ {l : List St} {xs : List Value}, stsV R w l xs → stsV R' w' l xs
  | [], xs, h => h
  | x :: r, xs, ⟨us, ys, h1, h2, h3⟩ => ⟨us, ys, h1, stV_stays hw hm h2, stsV_stays hw hm h3⟩
theorem thsV_stays (hw : Stays R w w') (hm : ∀ b, R b → R' b) : ∀ {l : List Th} {xs : List Value}, thsV R w l xs → thsV R' w' l xs
  | [], xs, h => h
  | x :: r, xs, ⟨us, ys, h1, h2, h3⟩ => ⟨us, ys, h1, thV_stays hw hm h2, thsV_stays hw hm h3⟩
theorem exV_len {e : Ex} {vs : List Value} (h : exV R w e vs) : vs.length = 6 := by obtain ⟨a, c, rfl, _⟩ := h; rfl
theorem stV_len {e : St} {vs : List Value} (h : stV R w e vs) : vs.length = 7 := by obtain ⟨a3, c3, a4, c4, a5, c5, rfl, _⟩ := h; rfl
theorem thV_len {e : Th} {vs : List Value} (h : thV R w e vs) : vs.length = 4 := by obtain ⟨a3, c3, a4, c4, rfl, _⟩ := h; rfl
theorem exsV_len : ∀ {l : List Ex} {xs : List Value}, exsV R w l xs → xs.length = l.length * 6
  | [], xs, h => by cases h; rfl
  | x :: r, xs, ⟨us, ys, h1, h2, h3⟩ => by rw [h1, List.length_append, exV_len h2, exsV_len h3, List.length_cons]; omega
theorem stsV_len : ∀ {l : List St} {xs : List Value}, stsV R w l xs → xs.length = l.length * 7
  | [], xs, h => by cases h; rfl
  | x :: r, xs, ⟨us, ys, h1, h2, h3⟩ => by rw [h1, List.length_append, stV_len h2, stsV_len h3, List.length_cons]; omega
theorem thsV_len : ∀ {l : List Th} {xs : List Value}, thsV R w l xs → xs.length = l.length * 4
  | [], xs, h => by cases h; rfl
  | x :: r, xs, ⟨us, ys, h1, h2, h3⟩ => by rw [h1, List.length_append, thV_len h2, thsV_len h3, List.length_cons]; omega
theorem exsIn_of : ∀ {l : List Ex} {xs : List Value} {b off : Nat}, exsV R w l xs → cellsIn w b off xs → exsIn R w l b off
  | [], xs, b, off, _, _ => trivial
  | x :: r, xs, b, off, ⟨us, ys, h1, h2, h3⟩, hc => by
    subst h1
    obtain ⟨k1, k2⟩ := cellsIn_app hc
    rw [exV_len h2] at k2
    exact ⟨exIn_of h2 k1, exsIn_of h3 k2⟩
theorem stsIn_of : ∀ {l : List St} {xs : List Value} {b off : Nat}, stsV R w l xs → cellsIn w b off xs → stsIn R w l b off
  | [], xs, b, off, _, _ => trivial
  | x :: r, xs, b, off, ⟨us, ys, h1, h2, h3⟩, hc => by
    subst h1
    obtain ⟨k1, k2⟩ := cellsIn_app hc
    rw [stV_len h2] at k2
    exact ⟨stIn_of h2 k1, stsIn_of h3 k2⟩
theorem thsIn_of : ∀ {l : List Th} {xs : List Value} {b off : Nat}, thsV R w l xs → cellsIn w b off xs → thsIn R w l b off
  | [], xs, b, off, _, _ => trivial
  | x :: r, xs, b, off, ⟨us, ys, h1, h2, h3⟩, hc => by
    subst h1
    obtain ⟨k1, k2⟩ := cellsIn_app hc
    rw [thV_len h2] at k2
    exact ⟨thIn_of h2 k1, thsIn_of h3 k2⟩
theorem dcsIn_of : ∀ {l : List Dc} {b off : Nat}, cellsIn w b off (dcsL l) → dcsIn w l b off
  | [], b, off, _ => trivial
  | d :: r, b, off, hc => by
    obtain ⟨k1, k2⟩ := cellsIn_app (xs := dcCells d) (ys := dcsL r) (by simpa [dcsL] using hc)
    exact ⟨dcIn_of k1, dcsIn_of k2⟩
end
theorem dcsL_snoc (l : List Dc) (d : Dc) : dcsL (l ++ [d]) = dcsL l ++ dcCells d := by simp [dcsL]
theorem dcsL_len : ∀ l : List Dc, (dcsL l).length = l.length * 3
  | [] => rfl
  | d :: r => by
    have := dcsL_len r
    simp only [dcsL, List.flatMap_cons, List.length_append, List.length_cons] at this ⊢
    rw [this]; simp [dcCells]; omega
theorem dcsL_app (l m : List Dc) : dcsL (l ++ m) = dcsL l ++ dcsL m := by simp [dcsL]
end Go.Proofs.YtjpmdafaaonpoaaDoor

namespace Go.Proofs.YtjpmdafaaonpoaaDoor
open Go.RowKit
set_option linter.unusedVariables false

def Res.tk (x : Res) : Tk := ⟨x.kind, x.text, x.wd, x.place⟩
/-- What a reader holds, but for its place. -/
structure Par where
  X : Nat
  ta : Option Addr
  cap : Nat
  toks : List Res
  L : Nat
  D : Nat
  S : Nat
  O : Nat
  bm : Nat
  bn : Nat
def Par.ptr (c : Par) : Value := .pointer (some ⟨c.X, 0, none⟩)
def Par.at (c : Par) (k : Nat) : List Tk := (c.toks.drop k).map Res.tk
def Par.declE (c : Par) : List MapEntry := [⟨.string ⟨#[115, 104, 97, 114, 101, 100]⟩, .func (.func 52) #[c.ptr] #[], 0⟩, ⟨.string ⟨#[108, 111, 99, 107]⟩, .func (.func 53) #[c.ptr] #[], 1⟩]
def Par.stmtE (c : Par) : List MapEntry := [⟨.string ⟨#[105, 102]⟩, .func (.func 54) #[c.ptr] #[], 0⟩, ⟨.string ⟨#[119, 104, 105, 108, 101]⟩, .func (.func 55) #[c.ptr] #[], 1⟩, ⟨.string ⟨#[108, 111, 99, 107]⟩, .func (.func 56) #[c.ptr] #[], 2⟩, ⟨.string ⟨#[112, 114, 105, 110, 116]⟩, .func (.func 57) #[c.ptr] #[], 3⟩, ⟨.string ⟨#[115, 107, 105, 112]⟩, .func (.func 58) #[c.ptr] #[], 4⟩]
def Par.operE (c : Par) : List MapEntry := [⟨.string ⟨#[45]⟩, .func (.func 89) #[] #[.pointer (some ⟨c.bm, 0, none⟩), .pointer (some ⟨c.bm + 1, 0, none⟩)], 0⟩, ⟨.string ⟨#[33]⟩, .func (.func 89) #[] #[.pointer (some ⟨c.bn, 0, none⟩), .pointer (some ⟨c.bn + 1, 0, none⟩)], 1⟩, ⟨.string ⟨#[40]⟩, .func (.func 60) #[c.ptr] #[], 2⟩]
/-- What stays as it is. -/
structure RdS (c : Par) (w : World) : Prop where
  tok : TokRow w (.slice c.ta c.toks.length c.cap) c.toks
  tne : ∀ g off, c.ta = some ⟨g, off, none⟩ → g ≠ c.X
  dm : w.heap[c.D]? = some (.map c.declE.toArray 2)
  sm : w.heap[c.S]? = some (.map c.stmtE.toArray 5)
  om : w.heap[c.O]? = some (.map c.operE.toArray 3)
  b1 : w.heap[c.bm]? = some (.cells #[c.ptr] 59 (0, 0))
  b2 : w.heap[c.bm + 1]? = some (.cells #[.int .u8 17] 23 (0, 0))
  b3 : w.heap[c.bn]? = some (.cells #[c.ptr] 59 (0, 0))
  b4 : w.heap[c.bn + 1]? = some (.cells #[.int .u8 18] 23 (0, 0))
  ne : c.D ≠ c.X ∧ c.S ≠ c.X ∧ c.O ≠ c.X ∧ c.bm ≠ c.X ∧ c.bm + 1 ≠ c.X ∧ c.bn ≠ c.X ∧ c.bn + 1 ≠ c.X
  tabs : Tabs w
  gne : 1 ≠ c.X ∧ 0 ≠ c.X
  small : c.toks.length ≤ 65536 ∧ c.L ≤ 65536 ∧ ∀ x ∈ c.toks, 0 ≤ x.wd ∧ x.wd ≤ 9223372036854775807
/-- The reader stands at token k. -/
structure Rd (c : Par) (w : World) (k : Nat) : Prop where
  s : RdS c w
  pos : w.heap[c.X]? = some (.cells #[.slice c.ta c.toks.length c.cap, .int .i64 (c.L : Int), .int .i64 (k : Int), .map (some c.D), .map (some c.S), .map (some c.O)] 99 (0, 0))
  le : k ≤ c.toks.length
/-- What a call leaves: all that was there, but for the reader's place. -/
@[reducible] def Fr (c : Par) (w w' : World) : Prop := Keep (fun k _ => k < w.heap.size ∧ k ≠ c.X) w w'
theorem Fr.refl (c : Par) (w : World) : Fr c w w := Keep.refl _ w
theorem Fr.trans {c : Par} {u v w : World} (h : Fr c u v) (k : Fr c v w) : Fr c u w :=
  Keep.trans h (Keep.mono k fun b o hb => ⟨by have := h.size; omega, hb.2⟩)
theorem Fr.of_below {c : Par} {w w' : World} (h : Below w.heap.size w w') : Fr c w w' := Keep.of_below h
theorem Fr.alloc {c : Par} {w w' : World} (h : Fr c w w') (o : Obj) : Fr c w (w'.alloc o) := Keep.alloc h o
theorem Fr.stays {c : Par} {w w' : World} (h : Fr c w w') : Stays (fun b => b < w.heap.size ∧ b ≠ c.X) w w' := by
  intro b o v hb hv
  have hlt := lt_of_at hv
  have hb2 : w'.heap[b]? = w.heap[b]? := by
    rw [h.block b _ (Array.getElem?_eq_getElem (by simpa using hlt)) hb, Array.getElem?_eq_getElem (by simpa using hlt)]
  rw [← hv]
  simp only [World.cell?, hb2]
theorem Fr.cell {c : Par} {w w' : World} (h : Fr c w w') {b o : Nat} (hb : b < w.heap.size) (hx : b ≠ c.X) : w'.cell? ⟨b, o, none⟩ = w.cell? ⟨b, o, none⟩ := by
  have hb2 : w'.heap[b]? = w.heap[b]? := by
    rw [h.block b _ (Array.getElem?_eq_getElem hb) ⟨hb, hx⟩, Array.getElem?_eq_getElem hb]
  simp only [World.cell?, hb2]
theorem Fr.frozen {c : Par} {w w' : World} (h : Fr c w w') {b o : Nat} (hb : b < w.heap.size) (hx : b ≠ c.X) : w'.frozen? ⟨b, o, none⟩ = w.frozen? ⟨b, o, none⟩ := by
  have hb2 : w'.heap[b]? = w.heap[b]? := by
    rw [h.block b _ (Array.getElem?_eq_getElem hb) ⟨hb, hx⟩, Array.getElem?_eq_getElem hb]
  simp only [World.frozen?, hb2]
theorem Fr.block {c : Par} {w w' : World} (h : Fr c w w') {b : Nat} {o : Obj} (hb : w.heap[b]? = some o) (hx : b ≠ c.X) : w'.heap[b]? = some o :=
  Keep.block h b o hb ⟨(Array.getElem?_eq_some_iff.1 hb).1, hx⟩
theorem Fr.setX {c : Par} {w w' : World} (h : Fr c w w') (v : Value) (j : Nat) {o : Obj} (ho : w'.heap[c.X]? = some o) : Fr c w (w'.setCell ⟨c.X, j, none⟩ v) :=
  Keep.setCell h (p := ⟨c.X, j, none⟩) v ho (fun hs => hs.2 rfl)
theorem RdS.keep {c : Par} {w w' : World} (h : RdS c w) (k : Fr c w w') : RdS c w' := by
  obtain ⟨tok, tne, dm, sm, om, b1, b2, b3, b4, ⟨n1, n2, n3, n4, n5, n6, n7⟩, T, ⟨g1, g2⟩, small⟩ := h
  refine ⟨?_, tne, k.block dm n1, k.block sm n2, k.block om n3, k.block b1 n4, k.block b2 n5, k.block b3 n6, k.block b4 n7, ⟨n1, n2, n3, n4, n5, n6, n7⟩, ?_, ⟨g1, g2⟩, small⟩
  · obtain ⟨oa, cap, hu, hc⟩ := tok
    refine ⟨oa, cap, hu, fun i x hx => ?_⟩
    obtain ⟨g, off, ho, a0, a1, a2, a3⟩ := hc i x hx
    have hg : g < w.heap.size := lt_of_at a0
    obtain ⟨rfl, _, _⟩ : c.ta = oa ∧ c.toks.length = c.toks.length ∧ c.cap = cap := by cases hu; exact ⟨rfl, rfl, rfl⟩
    have hx := tne g off ho
    exact ⟨g, off, ho, (k.cell hg hx).trans a0, (k.cell hg hx).trans a1, (k.cell hg hx).trans a2, (k.cell hg hx).trans a3⟩
  · have s1 := T.size1
    have s2 := T.size2
    have := Keep.size k
    exact ⟨by omega, by omega, fun i hi => (k.cell s1 g1).trans (T.lev i hi), fun i hi => (k.cell s2 g2).trans (T.sgn i hi)⟩
theorem Rd.lt {c : Par} {w : World} {k : Nat} (h : Rd c w k) : c.X < w.heap.size := (Array.getElem?_eq_some_iff.1 h.pos).1
/-- A call that does not go on. -/
theorem Rd.below {c : Par} {w w' : World} {k : Nat} (h : Rd c w k) (hb : Below w.heap.size w w') : Rd c w' k :=
  ⟨h.s.keep (.of_below hb), by rw [hb.block _ h.lt]; exact h.pos, h.le⟩
theorem Rd.alloc {c : Par} {w : World} {k : Nat} (h : Rd c w k) (o : Obj) : Rd c (w.alloc o) k := h.below ((Below.refl _ w).alloc (Nat.le_refl _) o)
/-- The reader goes over a token. -/
theorem Rd.step {c : Par} {w : World} {k : Nat} (h : Rd c w k) (hk : k < c.toks.length) : Rd c (w.setCell ⟨c.X, 2, none⟩ (.int .i64 ((k : Int) + 1))) (k + 1) := by
  refine ⟨h.s.keep ((Fr.refl c w).setX _ 2 h.pos), ?_, hk⟩
  have := heap_setCell_same w c.X 2 _ _ (.int .i64 ((k : Int) + 1)) h.pos
  rw [this]
  rfl
/-- The reader's cells. -/
theorem Rd.cells {c : Par} {w : World} {k : Nat} (h : Rd c w k) :
    (w.cell? ⟨c.X, 0, none⟩ = some (.slice c.ta c.toks.length c.cap) ∧ w.cell? ⟨c.X, 1, none⟩ = some (.int .i64 (c.L : Int)) ∧ w.cell? ⟨c.X, 2, none⟩ = some (.int .i64 (k : Int)) ∧
      w.cell? ⟨c.X, 3, none⟩ = some (.map (some c.D)) ∧ w.cell? ⟨c.X, 4, none⟩ = some (.map (some c.S)) ∧ w.cell? ⟨c.X, 5, none⟩ = some (.map (some c.O))) ∧ (∀ o, w.frozen? ⟨c.X, o, none⟩ = false) := by
  refine ⟨⟨?_, ?_, ?_, ?_, ?_, ?_⟩, fun o => ?_⟩
  · rw [cell_of_row w c.X 0 _ _ _ h.pos]; rfl
  · rw [cell_of_row w c.X 1 _ _ _ h.pos]; rfl
  · rw [cell_of_row w c.X 2 _ _ _ h.pos]; rfl
  · rw [cell_of_row w c.X 3 _ _ _ h.pos]; rfl
  · rw [cell_of_row w c.X 4 _ _ _ h.pos]; rfl
  · rw [cell_of_row w c.X 5 _ _ _ h.pos]; rfl
  · simp [World.frozen?, h.pos]
/-- The token that comes next, as a value. -/
def Par.nx (c : Par) (k : Nat) : Tk := match c.at k with | [] => ⟨0, ⟨#[]⟩, 0, c.L⟩ | t :: _ => t
def tkV (t : Tk) : Value := .agg #[.int .u8 t.kind, .string t.text, .int .i64 t.wd, .int .i64 t.pos]
theorem Par.at_lt {c : Par} {k : Nat} (h : k < c.toks.length) : c.at k = (c.toks[k]).tk :: c.at (k + 1) := by
  unfold Par.at
  rw [List.drop_eq_getElem_cons h]; rfl
theorem Par.at_end {c : Par} {k : Nat} (h : c.toks.length ≤ k) : c.at k = [] := by
  unfold Par.at
  rw [List.drop_of_length_le h]; rfl
theorem Par.at_tail {c : Par} {k : Nat} : (c.at k).tail = c.at (k + 1) := by
  by_cases h : k < c.toks.length
  · rw [Par.at_lt h]; rfl
  · rw [Par.at_end (by omega), Par.at_end (by omega)]; rfl
theorem Par.at_len (c : Par) (k : Nat) : (c.at k).length = c.toks.length - k := by simp [Par.at]
theorem Par.nx_pos (c : Par) (k : Nat) : (c.nx k).pos = hdP c.L (c.at k) := by
  unfold Par.nx
  cases c.at k <;> rfl
theorem Par.isT_nx (c : Par) (k : Nat) {s : Bs} (hs : s ≠ []) : isT s (c.at k) = ((c.nx k).tx == s) := by
  unfold Par.nx
  cases c.at k with
  | nil => cases s with
    | nil => exact absurd rfl hs
    | cons a b => rfl
  | cons t r => rfl
theorem Par.isT_lt {c : Par} {k : Nat} {s : Bs} (h : isT s (c.at k) = true) : k < c.toks.length := by
  apply Nat.lt_of_not_le
  intro hn
  rw [Par.at_end hn] at h; cases h
/-- The fault with which a call gives up. -/
def flt (p r : Int) : List PanicEntry := [{ v := .iface 29 (.agg #[.int .i64 p, .int .i64 r]), recovered := false }]
/-- How a call ends that reads. -/
def RdPost {α : Type} (c : Par) (w : World) (x : PR α) (V : α → Value → World → Prop) (e : Ending) (w' : World) : Prop :=
  Fr c w w' ∧ match x with
    | .ok a r => ∃ v k, e = .returned v ∧ V a v w' ∧ Rd c w' k ∧ r = c.at k
    | .bad p q => e = .panicked (flt p q)

/-! ### the look-up in a table of functions by a text -/
/-- What stands in a table by a text. -/
def lookE (s : Bs) : List MapEntry → Value
  | [] => .nilFunc
  | e :: r => match e.key with
    | .string t => if s = t.data.toList then e.val else lookE s r
    | _ => lookE s r
theorem findNow_str (s : ByteArray) : ∀ (es : List MapEntry) (i : Nat), (∀ e ∈ es, ∃ t, e.key = .string t) →
    (∃ j v, Instr.findNow .string (.string s) es i = some (some (j, v)) ∧ v = lookE s.data.toList es) ∨ (Instr.findNow .string (.string s) es i = some none ∧ lookE s.data.toList es = .nilFunc)
  | [], i, _ => .inr ⟨rfl, rfl⟩
  | e :: r, i, h => by
    obtain ⟨t, ht⟩ := h e (.head _)
    by_cases hs : s.data.toList = t.data.toList
    · left
      refine ⟨i, e.val, ?_, ?_⟩
      · have hst : s = t := ByteArray.ext (Array.ext' hs)
        subst hst
        have hb : (s == s) = true := (MapKept.bytes_beq s s).2 rfl
        simp only [Instr.findNow, ht, Instr.sameNow, hb]
      · simp only [lookE, ht]; rw [if_pos hs]
    · have hb : (s == t) = false := by
        cases hq : s == t with
        | false => rfl
        | true => exact absurd (by rw [(MapKept.bytes_beq s t).1 hq]) hs
      have hstep : Instr.findNow .string (.string s) (e :: r) i = Instr.findNow .string (.string s) r (i + 1) := by
        simp only [Instr.findNow, ht, Instr.sameNow, hb]
      have hl : lookE s.data.toList (e :: r) = lookE s.data.toList r := by simp only [lookE, ht]; rw [if_neg hs]
      rw [hstep, hl]
      exact findNow_str s r (i + 1) (fun x hx => h x (.tail _ hx))
theorem run_look {P : Program} {w : World} {t k e : TypeId} {b : Nat} {es : List MapEntry} {clock : Nat} (ht : P.underlying t = some (.map k e)) (hk : P.underlying k = some .string) (hz : (zeroValue e).run P w = .ok .nilFunc w)
    (hb : w.heap[b]? = some (.map es.toArray clock)) (he : ∀ e ∈ es, ∃ t, e.key = .string t) (s : ByteArray) : (Instr.lookup t (.map (some b)) (.string s) false).run P w = .ok (lookE s.data.toList es) w := by
  have hck : ∀ em, (Instr.checkKey em 10000 k (.string s)).run P w = .ok () w := fun em => MapKept.run_checkKey (d := .string) hk (by simp [MapKept.IsKey]) em 9999
  rcases findNow_str s es 0 he with ⟨j, v, h1, h2⟩ | ⟨h1, h2⟩
  · have hf := MapKept.run_findKey (w := w) hk h1
    unfold Instr.lookup
    simp [run_underlying ht, Result.andThen, MapKept.run_getObj_map hb, hck, hf, h2]
  · have hf := MapKept.run_findKey (w := w) hk h1
    unfold Instr.lookup
    simp [run_underlying ht, Result.andThen, MapKept.run_getObj_map hb, hck, hf, h2, hz]
end Go.Proofs.YtjpmdafaaonpoaaDoor

namespace Go.Proofs.YtjpmdafaaonpoaaDoor
open Go.RowKit
set_option linter.unusedVariables false

theorem tok_f1 : ∀ (a b c d : Value) (w : World), (Instr.field 49 (.agg #[a, b, c, d]) 1).run Tryd.prog w = .ok b w := fun a b c d w => by kernel_rfl
theorem tok_f2 : ∀ (a b c d : Value) (w : World), (Instr.field 49 (.agg #[a, b, c, d]) 2).run Tryd.prog w = .ok c w := fun a b c d w => by kernel_rfl
theorem ret_tk (t : Tk) {k x w p : Value} (h1 : k = .int .u8 t.kind) (h2 : x = .string t.text) (h3 : w = .int .i64 t.wd) (h4 : p = .int .i64 t.pos) : Ending.returned (.agg #[k, x, w, p]) = .returned (tkV t) := by
  subst h1 h2 h3 h4; rfl
theorem Keep.drewN {sel : Nat → Obj → Prop} {A B : World} (h : Keep sel A B) (n : Nat) : Keep sel A (B.drewN n) := ⟨h.os, h.tape, h.output, h.size, h.block⟩
theorem fr_new {c : Par} {w : World} (o : Obj) (n : Nat) : Fr c w ((w.alloc o).drewN n) := Keep.drewN ((Fr.refl c w).alloc o) n
theorem Rd.new {c : Par} {w : World} {k : Nat} (h : Rd c w k) (o : Obj) (n : Nat) : Rd c ((w.alloc o).drewN n) k := by
  have hb := (Below.refl w.heap.size w).alloc (Nat.le_refl _) o
  exact h.below ⟨hb.os, hb.tape, hb.output, hb.size, hb.block⟩
set_option maxRecDepth 100000 in
set_option maxHeartbeats 1000000 in
theorem p_next {c : Par} {w : World} {k : Nat} (R : Rd c w k) :
    Calls Tryd.prog 44 #[c.ptr] w fun e w' => e = .returned (tkV (c.nx k)) ∧ Below w.heap.size w w' := by
  obtain ⟨⟨c0, c1, c2, _⟩, f⟩ := R.cells
  have hX := R.lt
  have hle := R.le
  have hsm := R.s.small.1
  by_cases hk : k < c.toks.length
  · have hnx : c.nx k = (c.toks[k]).tk := by unfold Par.nx; rw [Par.at_lt hk]
    obtain ⟨oa, cap, hu, htok⟩ := R.s.tok
    obtain ⟨g, off, ho, a0, a1, a2, a3⟩ := htok k c.toks[k] (List.getElem?_eq_getElem hk)
    obtain ⟨hta, _⟩ : c.ta = oa ∧ True := by cases hu; exact ⟨rfl, trivial⟩
    obtain ⟨x, hx⟩ : ∃ x, x = c.toks[k] := ⟨_, rfl⟩
    rw [← hx] at a0 a1 a2 a3 hnx
    obtain ⟨rk, rx, rw0, rp, ra, rr⟩ := x
    simp only at a0 a1 a2 a3
    rw [hnx]
    subst hta
    rw [ho] at c0
    have hkk : (k : Int) < (c.toks.length : Int) := by omega
    obtain ⟨n, hn⟩ : ∃ n, n = c.toks.length := ⟨_, rfl⟩
    rw [← hn] at c0 hkk hk hle hsm
    have hg := lt_of_at a0
    clear hnx htok hu ho hx hn R
    unfold Par.ptr
    go_enter Tryd.func44, Tryd.ntmps44
    go_wp2
    go_quiet (fail)
    go_wp2
    go_region
    go_wp2
    refine bodyPost_ret (v := tkV ⟨rk, rx, rw0, rp⟩) (by simp [results, Tryd.results44, go_sem, tkV]) rfl ⟨rfl, ?_⟩
    repeat (first | exact Below.refl _ _ | refine below_drewN ?_ _ | refine Below.setCell ?_ (by simp) _ | refine Below.alloc ?_ (by simp) _)
  · have hnx : c.nx k = ⟨0, ⟨#[]⟩, 0, c.L⟩ := by unfold Par.nx; rw [Par.at_end (by omega)]
    rw [hnx]
    have hkk : decide ((k : Int) < (c.toks.length : Int)) = false := b_f (by omega)
    have hkn : decide (k < c.toks.length) = false := b_f (by omega)
    obtain ⟨n, hn⟩ : ∃ n, n = c.toks.length := ⟨_, rfl⟩
    rw [← hn] at c0 hkk hk hle hsm hkn
    obtain ⟨L, hL⟩ : ∃ L, L = c.L := ⟨_, rfl⟩
    rw [← hL] at c1 ⊢
    clear hnx hn hL R
    unfold Par.ptr
    go_enter Tryd.func44, Tryd.ntmps44
    go_wp2
    go_quiet (fail)
    go_wp2
    refine bodyPost_ret (v := tkV ⟨0, ⟨#[]⟩, 0, L⟩) (by simp [results, Tryd.results44, go_sem, tkV]) rfl ⟨rfl, ?_⟩
    repeat (first | exact Below.refl _ _ | refine below_drewN ?_ _ | refine Below.setCell ?_ (by simp) _ | refine Below.alloc ?_ (by simp) _)
/-- A call that gives up. -/
theorem p_refuse (t : Tk) (r : Int) (w : World) : Calls Tryd.prog 61 #[tkV t, .int .i64 r] w fun e w' => e = .panicked (flt t.pos r) ∧ Below w.heap.size w w' := by
  obtain ⟨k, x, v, p⟩ := t
  unfold tkV
  go_enter Tryd.func61, Tryd.ntmps61
  go_wp2
  exact ⟨rfl, rfl, (Below.refl _ w).alloc (Nat.le_refl _) _⟩
set_option maxRecDepth 100000 in
set_option maxHeartbeats 1000000 in
theorem p_pass {c : Par} {w : World} {k : Nat} (R : Rd c w k) (s : ByteArray) (hs : s.data.toList ≠ []) :
    Calls Tryd.prog 45 #[c.ptr, .string s] w fun e w' => e = .returned (.bool (isT s.data.toList (c.at k))) ∧ Fr c w w' ∧ Rd c w' (if isT s.data.toList (c.at k) = true then k + 1 else k) := by
  have HN := Lib.hid (p_next R)
  have HR := Lib.hid R
  have hT := Par.isT_nx c k hs
  by_cases h : isT s.data.toList (c.at k) = true
  · have hk := Par.isT_lt h
    have hk6 : k ≤ 65536 := by have := R.s.small.1; omega
    rw [h] at hT ⊢
    rw [if_pos rfl]
    obtain ⟨t, ht⟩ : ∃ t, t = c.nx k := ⟨_, rfl⟩
    rw [← ht] at HN hT
    obtain ⟨tk, tx, tw, tp⟩ := t
    have hx : (tx.toList == s.toList) = true := by
      have e : tx.data.toList = s.data.toList := by simpa [Tk.tx] using hT.symm
      rw [Lib.toList_data, Lib.toList_data, e]; simp
    have HX := Lib.hid hk
    clear hT h ht R hk
    unfold tkV at HN
    unfold Par.ptr at HN ⊢
    have F1 := tok_f1
    go_enter Tryd.func45, Tryd.ntmps45
    go_wp2_with (go_at_call 44; refine (HN.out).mono ?_; rintro e w1 ⟨rfl, hb⟩; have HB := Lib.hid hb; have R1 := Lib.hid (HR.out.below hb); obtain ⟨⟨_, _, c2, _⟩, f⟩ := R1.out.cells; clear hb)
    go_ret
    exact ⟨rfl, Fr.setX (.of_below HB.out) _ 2 R1.out.pos, R1.out.step HX.out⟩
  · have h' : isT s.data.toList (c.at k) = false := by simpa using h
    rw [h'] at hT ⊢
    rw [if_neg (by simp)]
    obtain ⟨t, ht⟩ : ∃ t, t = c.nx k := ⟨_, rfl⟩
    rw [← ht] at HN hT
    obtain ⟨tk, tx, tw, tp⟩ := t
    have hx : (tx.toList == s.toList) = false := by
      have e : ¬ tx.data.toList = s.data.toList := by
        have := hT.symm
        simpa [Tk.tx] using this
      rw [Lib.toList_data, Lib.toList_data]; simpa using e
    clear hT h h' ht R
    unfold tkV at HN
    unfold Par.ptr at HN ⊢
    have F1 := tok_f1
    go_enter Tryd.func45, Tryd.ntmps45
    go_wp2_with (go_at_call 44; refine (HN.out).mono ?_; rintro e w1 ⟨rfl, hb⟩; have HB := Lib.hid hb; clear hb)
    go_ret
    exact ⟨rfl, .of_below HB.out, HR.out.below HB.out⟩
theorem p_take_ok {c : Par} {w : World} {k : Nat} (R : Rd c w k) (s : ByteArray) (hs : s.data.toList ≠ []) (h : isT s.data.toList (c.at k) = true) :
    Calls Tryd.prog 88 #[c.ptr, .string s] w fun e w' => e = .returned (.tuple #[]) ∧ Fr c w w' ∧ Rd c w' (k + 1) := by
  have HP := p_pass R s hs
  rw [h, if_pos rfl] at HP
  have HP := Lib.hid HP
  clear R
  unfold Par.ptr at HP ⊢
  go_enter Tryd.func88, Tryd.ntmps88
  go_wp2_with (go_at_call 45; refine (HP.out).mono ?_; rintro e w1 ⟨rfl, hf, hr⟩; have HF := Lib.hid hf; have HR := Lib.hid hr; clear hf hr)
  go_end0
  exact ⟨rfl, HF.out, HR.out⟩
theorem p_take_bad {c : Par} {w : World} {k : Nat} (R : Rd c w k) (s : ByteArray) (hs : s.data.toList ≠ []) (h : isT s.data.toList (c.at k) = false) :
    Calls Tryd.prog 88 #[c.ptr, .string s] w fun e w' => e = .panicked (flt (hdP c.L (c.at k)) 2) ∧ Fr c w w' := by
  have HP := p_pass R s hs
  rw [h, if_neg (by simp)] at HP
  have HP := Lib.hid HP
  have HQ : Hid (∀ W, Rd c W k → Calls Tryd.prog 44 #[c.ptr] W fun e w' => e = .returned (tkV (c.nx k)) ∧ Below W.heap.size W w') := fun W h => p_next h
  have hp := c.nx_pos k
  obtain ⟨t, ht⟩ : ∃ t, t = c.nx k := ⟨_, rfl⟩
  rw [← ht] at HQ hp
  rw [← hp]
  clear R ht hp
  unfold Par.ptr at HP HQ ⊢
  go_enter Tryd.func88, Tryd.ntmps88
  go_wp2_with (first
    | (go_at_call 45; refine (HP.out).mono ?_; rintro e w1 ⟨rfl, hf, hr⟩; have HF := Lib.hid hf; have HR := Lib.hid hr; clear hf hr)
    | (go_at_call 44; refine (HQ.out _ HR.out).mono ?_; rintro e w2 ⟨rfl, hb⟩; have HB := Lib.hid hb; clear hb)
    | (go_at_call 61; refine (p_refuse _ _ _).mono ?_; rintro e w3 ⟨rfl, hb⟩; have HC := Lib.hid hb; clear hb))
  exact ⟨rfl, rfl, (HF.out.trans (.of_below HB.out)).trans (.of_below HC.out)⟩
end Go.Proofs.YtjpmdafaaonpoaaDoor

namespace Go.Proofs.YtjpmdafaaonpoaaDoor
open Go.RowKit
set_option linter.unusedVariables false

/-- The reader's block. -/
def Par.row (c : Par) (k : Nat) : Obj := .cells #[.slice c.ta c.toks.length c.cap, .int .i64 (c.L : Int), .int .i64 (k : Int), .map (some c.D), .map (some c.S), .map (some c.O)] 99 (0, 0)
/-- Behind some calls that began in w. -/
structure At (c : Par) (w W : World) (k : Nat) : Prop where
  fr : Fr c w W
  pos : W.heap[c.X]? = some (c.row k)
  le : k ≤ c.toks.length
theorem At.start {c : Par} {w : World} {k : Nat} (R : Rd c w k) : At c w w k := ⟨Fr.refl c w, R.pos, R.le⟩
theorem At.rd {c : Par} {w W : World} {k k' : Nat} (A : At c w W k') (R : Rd c w k) : Rd c W k' := ⟨R.s.keep A.fr, A.pos, A.le⟩
theorem At.lt {c : Par} {w W : World} {k : Nat} (A : At c w W k) : c.X < W.heap.size := (Array.getElem?_eq_some_iff.1 A.pos).1
theorem At.alloc {c : Par} {w W : World} {k : Nat} (A : At c w W k) (o : Obj) : At c w (W.alloc o) k :=
  ⟨A.fr.alloc o, ((Below.refl _ W).alloc (Nat.le_refl _) o).block _ A.lt |>.trans A.pos, A.le⟩
theorem At.below {c : Par} {w W W' : World} {k : Nat} (A : At c w W k) (h : Below W.heap.size W W') : At c w W' k :=
  ⟨A.fr.trans (.of_below h), (h.block _ A.lt).trans A.pos, A.le⟩
theorem At.call {c : Par} {w W W' : World} {k k' : Nat} (A : At c w W k) (h : Fr c W W') (R : Rd c W' k') : At c w W' k' := ⟨A.fr.trans h, R.pos, R.le⟩
theorem setRow_other {W : World} {b g : Nat} (cs : Array Value) (h : b ≠ g) : (W.setRow g cs).heap[b]? = W.heap[b]? := by
  simp only [World.setRow, Array.getElem?_modify]
  rw [if_neg (fun e => h e.symm)]
theorem Fr.setRow {c : Par} {w W : World} (h : Fr c w W) {g : Nat} (hg : w.heap.size ≤ g) (cs : Array Value) : Fr c w (W.setRow g cs) :=
  have h1 := Keep.os h
  have h2 := Keep.tape h
  have h3 := Keep.output h
  ⟨h1, h2, h3, by have := Keep.size h; simpa [World.setRow] using this, fun b o hb hs => by rw [setRow_other cs (by have := hs.1; omega)]; exact Keep.block h b o hb hs⟩
theorem At.setRow {c : Par} {w W : World} {k : Nat} (A : At c w W k) {g : Nat} (hg : w.heap.size ≤ g) (hx : c.X ≠ g) (cs : Array Value) : At c w (W.setRow g cs) k :=
  ⟨A.fr.setRow hg cs, (setRow_other cs hx).trans A.pos, A.le⟩
theorem At.drew {c : Par} {w W : World} {k : Nat} (A : At c w W k) : At c w W.drew k := ⟨Keep.drewN A.fr 1, A.pos, A.le⟩
theorem Fr.drew {c : Par} {w W : World} (A : Fr c w W) : Fr c w W.drew := Keep.drewN A 1
theorem At.drewN {c : Par} {w W : World} {k : Nat} (A : At c w W k) (n : Nat) : At c w (W.drewN n) k := ⟨Keep.drewN A.fr n, A.pos, A.le⟩
/-- The reader goes over a token. -/
theorem At.step {c : Par} {w W : World} {k : Nat} (A : At c w W k) (hk : k < c.toks.length) : At c w (W.setCell ⟨c.X, 2, none⟩ (.int .i64 ((k : Int) + 1))) (k + 1) := by
  refine ⟨A.fr.setX _ 2 A.pos, ?_, hk⟩
  rw [heap_setCell_same W c.X 2 _ _ (.int .i64 ((k : Int) + 1)) A.pos]
  rfl
theorem At.cells {c : Par} {w W : World} {k : Nat} (A : At c w W k) :
    (W.cell? ⟨c.X, 0, none⟩ = some (.slice c.ta c.toks.length c.cap) ∧ W.cell? ⟨c.X, 1, none⟩ = some (.int .i64 (c.L : Int)) ∧ W.cell? ⟨c.X, 2, none⟩ = some (.int .i64 (k : Int)) ∧
      W.cell? ⟨c.X, 3, none⟩ = some (.map (some c.D)) ∧ W.cell? ⟨c.X, 4, none⟩ = some (.map (some c.S)) ∧ W.cell? ⟨c.X, 5, none⟩ = some (.map (some c.O))) ∧ W.frozen? ⟨c.X, 2, none⟩ = false := by
  have hp := A.pos
  refine ⟨⟨?_, ?_, ?_, ?_, ?_, ?_⟩, ?_⟩
  · rw [cell_of_row W c.X 0 _ _ _ hp]; rfl
  · rw [cell_of_row W c.X 1 _ _ _ hp]; rfl
  · rw [cell_of_row W c.X 2 _ _ _ hp]; rfl
  · rw [cell_of_row W c.X 3 _ _ _ hp]; rfl
  · rw [cell_of_row W c.X 4 _ _ _ hp]; rfl
  · rw [cell_of_row W c.X 5 _ _ _ hp]; rfl
  · simp only [World.frozen?, hp]; rfl
/-- A block of the call's own. -/
def Own (W : World) (b : Nat) (t : TypeId) (cs : Array Value) : Prop := W.heap[b]? = some (.cells cs t (0, 0))
theorem Own.new (W : World) (t : TypeId) (cs : Array Value) : Own (W.alloc (.cells cs t)) W.heap.size t cs := World.alloc_heap_new W _
theorem Own.lt {W : World} {b : Nat} {t : TypeId} {cs : Array Value} (h : Own W b t cs) : b < W.heap.size := (Array.getElem?_eq_some_iff.1 h).1
theorem Own.alloc {W : World} {b : Nat} {t : TypeId} {cs : Array Value} (h : Own W b t cs) (o : Obj) : Own (W.alloc o) b t cs := (((Below.refl _ W).alloc (Nat.le_refl _) o).block _ h.lt).trans h
theorem Own.below {W W' : World} {b : Nat} {t : TypeId} {cs : Array Value} (h : Own W b t cs) (hb : Below W.heap.size W W') : Own W' b t cs := (hb.block _ h.lt).trans h
theorem Own.fr {c : Par} {W W' : World} {b : Nat} {t : TypeId} {cs : Array Value} (h : Own W b t cs) (hf : Fr c W W') (hx : c.X ≠ b) : Own W' b t cs := hf.block h (fun e => hx e.symm)
theorem Own.setX {W : World} {b : Nat} {t : TypeId} {cs : Array Value} (h : Own W b t cs) {x : Nat} (j : Nat) (v : Value) (hx : x ≠ b) : Own (W.setCell ⟨x, j, none⟩ v) b t cs := (Below.heap_setCell _ _ _ _ (fun e => hx e.symm)).trans h
theorem Own.drewN {W : World} {b : Nat} {t : TypeId} {cs : Array Value} (h : Own W b t cs) (n : Nat) : Own (W.drewN n) b t cs := h
theorem Own.row {W : World} {b : Nat} {t : TypeId} {cs : Array Value} (h : Own W b t cs) (ds : Array Value) : Own (W.setRow b ds) b t ds := setRow_heap _ _ _ _ _ _ h
theorem Own.other {W : World} {b g : Nat} {t : TypeId} {cs : Array Value} (h : Own W b t cs) (ds : Array Value) (hb : b ≠ g) : Own (W.setRow g ds) b t cs := (setRow_other ds hb).trans h
/-- Behind a call: all cells, but for the reader's. -/
theorem fr_cells {c : Par} {W w1 : World} (h : Fr c W w1) : (∀ b o, b < W.heap.size → ¬ b = c.X → w1.cell? ⟨b, o, none⟩ = W.cell? ⟨b, o, none⟩) ∧ (∀ b o, b < W.heap.size → ¬ b = c.X → w1.frozen? ⟨b, o, none⟩ = W.frozen? ⟨b, o, none⟩) ∧ W.heap.size ≤ w1.heap.size :=
  ⟨fun b o hb hx => h.cell hb hx, fun b o hb hx => h.frozen hb hx, Keep.size h⟩
/-- A new block is none of the reader's. -/
theorem own_ne {c : Par} {w : World} {k : Nat} (R : Rd c w k) : (¬ w.heap.size = c.X) ∧ ∀ n, ¬ w.heap.size + n = c.X := by
  have := R.lt
  exact ⟨by omega, fun n => by omega⟩
theorem stays_fr {c : Par} {R : Nat → Prop} {W W' : World} (h : Fr c W W') (hx : ∀ b, R b → b ≠ c.X) : Stays R W W' := fun b o v hb hv => by
  rw [h.cell (by have := cell_lt hv; simpa using this) (hx b hb)]; exact hv
theorem stays_alloc (R : Nat → Prop) (W : World) (o : Obj) : Stays R W (W.alloc o) := fun b o' v hb hv => by
  rw [((Below.refl W.heap.size W).alloc (Nat.le_refl _) o).cell (p := ⟨b, o', none⟩) (by have := cell_lt hv; simpa using this)]; exact hv
theorem stays_below {R : Nat → Prop} {W W' : World} (h : Below W.heap.size W W') : Stays R W W' := fun b o' v hb hv => by
  rw [h.cell (p := ⟨b, o', none⟩) (by have := cell_lt hv; simpa using this)]; exact hv
theorem stays_row {R : Nat → Prop} (W : World) {g : Nat} (cs : Array Value) (hx : ∀ b, R b → b ≠ g) : Stays R W (W.setRow g cs) := fun b o v hb hv => by
  have e := setRow_other (W := W) cs (hx b hb)
  rw [← hv]; simp only [World.cell?, e]
theorem stays_setX {R : Nat → Prop} (W : World) {x : Nat} (j : Nat) (u : Value) (hx : ∀ b, R b → b ≠ x) : Stays R W (W.setCell ⟨x, j, none⟩ u) := fun b o v hb hv => by
  have e := Below.heap_setCell W ⟨x, j, none⟩ u b (hx b hb)
  rw [← hv]; simp only [World.cell?, e]
/-- A struct of so many cells. -/
def RowT (T : TypeId) (n : Nat) : Prop := ∃ d, Tryd.prog.underlying T = some d ∧ (match d with | .struct _ | .array _ _ => true | _ => false) = true ∧ (Tryd.prog.info? T).map (·.size) = some n
theorem rowTok : RowT 49 4 := ⟨_, Tryd.underlying49, rfl, by kernel_rfl⟩
theorem rowEx : RowT 26 6 := ⟨_, Tryd.underlying26, rfl, by kernel_rfl⟩
theorem rowDc : RowT 71 3 := ⟨_, Tryd.underlying71, rfl, by kernel_rfl⟩
theorem rowSt : RowT 74 7 := ⟨_, Tryd.underlying74, rfl, by kernel_rfl⟩
theorem rowTh : RowT 69 4 := ⟨_, Tryd.underlying69, rfl, by kernel_rfl⟩
theorem rowPg : RowT 40 3 := ⟨_, Tryd.underlying40, rfl, by kernel_rfl⟩
theorem rowFl : RowT 29 2 := ⟨_, Tryd.underlying29, rfl, by kernel_rfl⟩
section
variable {ops : Array Oper} {rest : List Oper} {o : Oper} {a : Act} {w : World} {Q : Exit → Act → World → Prop} {T : TypeId} {n : Nat}
theorem ld (hT : RowT T n) (hgd : o.guard = none) {x : Operand} (ho : o.op = .load T x) {g : Nat} (hx : a.eval x = .pointer (some ⟨g, 0, none⟩)) {cs : Array Value} (hg : Own w g T cs) (hn : cs.size = n)
    (h : wpList Tryd.prog ops Q rest (a.put o.dst (.agg cs)) w) : wpList Tryd.prog ops Q (o :: rest) a w := by
  obtain ⟨d, h1, h2, h3⟩ := hT
  exact wpList_load_row hgd T x ho g hx T cs (0, 0) d hg h1 (by cases d <;> first | rfl | cases h2) (by rw [h3, hn]) h
theorem st (hT : RowT T n) (hgd : o.guard = none) {x y : Operand} (ho : o.op = .store T x y) {g : Nat} {cs old : Array Value} (hg : Own w g T old) (hx : a.eval x = .pointer (some ⟨g, 0, none⟩)) (hy : a.eval y = .agg cs) (hn : cs.size = n) (hm : old.size = n) (h1 : cs.all (·.oneCell') = true)
    (h : wpList Tryd.prog ops Q rest (a.put o.dst undef) (w.setRow g cs)) : wpList Tryd.prog ops Q (o :: rest) a w := by
  obtain ⟨d, _, _, h3⟩ := hT
  exact wpList_store_row hgd T x y ho g cs hx hy T old hg (by rw [h3, hn]) (by rw [hm, hn]) h1 h
theorem step_st {K : Act → World → Prop} {E : Prop} (hT : RowT T n) (hgd : o.guard = none) {x y : Operand} (ho : o.op = .store T x y) {g : Nat} {cs old : Array Value} (hx : a.eval x = .pointer (some ⟨g, 0, none⟩)) (hy : a.eval y = .agg cs) (hn : cs.size = n) (h1 : cs.all (·.oneCell') = true) (hg : Own w g T old) (hm : old.size = n)
    (h : K (a.put o.dst undef) (w.setRow g cs)) : if Region.wanted o (yielded ops a.tmps) = true then Oper.wp Tryd.prog o a w K Q else E := by
  obtain ⟨d, _, _, h3⟩ := hT
  rw [if_pos (by simp [Region.wanted, hgd])]
  exact wp_store_row T x y ho g cs hx hy T old hg (by rw [h3, hn]) (by rw [hm, hn]) h1 h
theorem p_ret (hT : RowT T n) {fn : Func} {p : Tmp} {R : Ending → World → Prop} (hr : fn.results = #[.cell p T]) {g : Nat} {cs : Array Value} (hg : Own w g T cs) (hp : a.tmps.getD p undef = .pointer (some ⟨g, 0, none⟩)) (hd : a.defers = []) (hn : cs.size = n)
    (h : R (.returned (.agg cs)) w) : bodyPost Tryd.prog fn R .ret a w := by
  obtain ⟨d, h1, h2, h3⟩ := hT
  exact bodyPost_ret (results_cell_row hr _ _ g T cs (0, 0) d hp hg h1 (by cases d <;> first | rfl | cases h2) (by rw [h3, hn])) hd h
end
/-- The zero values. -/
def zTok : Array Value := #[.int .u8 0, .string ⟨#[]⟩, .int .i64 0, .int .i64 0]
def zEx : Array Value := #[.int .u8 0, .int .u8 0, .int .i64 0, .string ⟨#[]⟩, .slice none 0 0, .int .i64 0]
def zSt : Array Value := #[.int .u8 0, .string ⟨#[]⟩, .string ⟨#[]⟩, .slice none 0 0, .slice none 0 0, .slice none 0 0, .int .i64 0]
def zDc : Array Value := #[.string ⟨#[]⟩, .int .i64 0, .int .i64 0]
def zTh : Array Value := #[.string ⟨#[]⟩, .slice none 0 0, .slice none 0 0, .int .i64 0]
def zPg : Array Value := #[.slice none 0 0, .slice none 0 0, .slice none 0 0]
set_option maxRecDepth 100000 in
set_option maxHeartbeats 1000000 in
theorem p_kind_ok {c : Par} {w : World} {k : Nat} (R : Rd c w k) (kd : Int) (h : (c.nx k).kind = kd) (hk : k < c.toks.length) :
    Calls Tryd.prog 86 #[c.ptr, .int .u8 kd] w fun e w' => e = .returned (tkV (c.nx k)) ∧ Fr c w w' ∧ Rd c w' (k + 1) := by
  have hk6 : k ≤ 65536 := by have := R.s.small.1; omega
  have HK := Lib.hid hk
  have hX : c.X ≠ w.heap.size := by have := R.lt; omega
  have HN : Hid (∀ W, Rd c W k → Calls Tryd.prog 44 #[c.ptr] W fun e w' => e = .returned (tkV (c.nx k)) ∧ Below W.heap.size W w') := fun W h => p_next h
  obtain ⟨t, ht⟩ : ∃ t, t = c.nx k := ⟨_, rfl⟩
  rw [← ht] at HN h ⊢
  obtain ⟨tk, tx, tw, tp⟩ := t
  simp only at h
  subst h
  have HR := Lib.hid R
  have HX := Lib.hid hX
  clear ht hk R hX
  unfold tkV Par.ptr at *
  go_enter Tryd.func86, Tryd.ntmps86
  go_wp2_with fail
  have A0 := (At.start HR.out).alloc (.cells #[.int .u8 0, .string ⟨#[]⟩, .int .i64 0, .int .i64 0] 49)
  have O0 := Own.new w 49 #[.int .u8 0, .string ⟨#[]⟩, .int .i64 0, .int .i64 0]
  go_at_call 44
  refine (HN.out _ (A0.rd HR.out)).mono ?_
  rintro e w1 ⟨rfl, hb⟩
  have A1 := Lib.hid (A0.below hb)
  have O1 := Lib.hid (O0.below hb)
  have hX1 := A1.out.lt
  obtain ⟨⟨_, _, c2, _⟩, f⟩ := A1.out.cells
  clear hb A0 O0
  go_upto_region 5 with (fail)
  have A2 := ((A1.out.step HK.out).alloc (.cells #[.int .u8 tk, .string tx, .int .i64 tw, .int .i64 tp] 49))
  have O2 := (O1.out.setX 2 (.int .i64 ((k : Int) + 1)) HX.out).alloc (.cells #[.int .u8 tk, .string tx, .int .i64 tw, .int .i64 tp] 49)
  have P2 := Own.new (w1.setCell ⟨c.X, 2, none⟩ (.int .i64 ((k : Int) + 1))) 49 #[.int .u8 tk, .string tx, .int .i64 tw, .int .i64 tp]
  rw [World.size_setCell] at P2
  obtain ⟨W, hW⟩ : ∃ W, W = (w1.setCell ⟨c.X, 2, none⟩ (.int .i64 ((k : Int) + 1))).alloc (.cells #[.int .u8 tk, .string tx, .int .i64 tw, .int .i64 tp] 49) := ⟨_, rfl⟩
  rw [← hW] at A2 O2 P2 ⊢
  have AA := Lib.hid A2
  clear c2 f hX1 hW A2
  go_wp2_with (first | (refine ld rowTok rfl rfl rfl P2 rfl ?_) | (refine st rowTok rfl rfl O2 rfl rfl (by rfl) (by rfl) (by kernel_rfl) ?_))
  have A3 := AA.out.setRow (Nat.le_refl _) HX.out #[.int .u8 tk, .string tx, .int .i64 tw, .int .i64 tp]
  exact p_ret rowTok rfl (O2.row #[.int .u8 tk, .string tx, .int .i64 tw, .int .i64 tp]) rfl rfl rfl ⟨rfl, A3.fr, A3.rd HR.out⟩
theorem p_kind_bad {c : Par} {w : World} {k : Nat} (R : Rd c w k) (kd : Int) (h : ¬ (c.nx k).kind = kd) :
    Calls Tryd.prog 86 #[c.ptr, .int .u8 kd] w fun e w' => e = .panicked (flt (hdP c.L (c.at k)) 2) ∧ Fr c w w' := by
  have HN : Hid (∀ W, Rd c W k → Calls Tryd.prog 44 #[c.ptr] W fun e w' => e = .returned (tkV (c.nx k)) ∧ Below W.heap.size W w') := fun W h => p_next h
  have hp := c.nx_pos k
  obtain ⟨t, ht⟩ : ∃ t, t = c.nx k := ⟨_, rfl⟩
  rw [← ht] at HN h hp
  rw [← hp]
  obtain ⟨tk, tx, tw, tp⟩ := t
  simp only at h
  have hne : (tk == kd) = false := by simpa using h
  have HR := Lib.hid R
  clear ht R h hp
  have HQ := Lib.hid (fun w => p_refuse ⟨tk, tx, tw, tp⟩ 2 w)
  unfold tkV Par.ptr at *
  go_enter Tryd.func86, Tryd.ntmps86
  go_wp2_with fail
  have A0 := (At.start HR.out).alloc (.cells zTok 49)
  go_at_call 44
  refine (HN.out _ (A0.rd HR.out)).mono ?_
  rintro e w1 ⟨rfl, hb⟩
  have A1 := Lib.hid ((A0.below hb).alloc (.cells #[.int .u8 tk, .string tx, .int .i64 tw, .int .i64 tp] 49))
  clear hb A0
  go_wp2_with (go_at_call 61; refine (HQ.out _).mono ?_; rintro e w3 ⟨rfl, hb⟩; have HC := Lib.hid hb; clear hb)
  exact ⟨rfl, rfl, A1.out.fr.trans (.of_below HC.out)⟩
end Go.Proofs.YtjpmdafaaonpoaaDoor

namespace Go.Proofs.YtjpmdafaaonpoaaDoor
open Go.RowKit
set_option linter.unusedVariables false

theorem p_deeper_ok (t : Tk) (d : Int) (h0 : 0 ≤ d) (h1 : d < 64) (w : World) : Calls Tryd.prog 90 #[tkV t, .int .i64 d] w fun e w' => e = .returned (.int .i64 (d + 1)) ∧ Below w.heap.size w w' := by
  obtain ⟨tk, tx, tw, tp⟩ := t
  have hne : (d == 64) = false := by simp; omega
  unfold tkV
  go_enter Tryd.func90, Tryd.ntmps90
  go_wp2_with fail
  go_ret
  exact ⟨rfl, (Below.refl _ w).alloc (Nat.le_refl _) _⟩
theorem p_deeper_bad (t : Tk) (w : World) : Calls Tryd.prog 90 #[tkV t, .int .i64 64] w fun e w' => e = .panicked (flt t.pos 3) ∧ Below w.heap.size w w' := by
  obtain ⟨tk, tx, tw, tp⟩ := t
  have HQ := Lib.hid (fun w => p_refuse ⟨tk, tx, tw, tp⟩ 3 w)
  unfold tkV at *
  go_enter Tryd.func90, Tryd.ntmps90
  go_wp2_with (go_at_call 61; refine (HQ.out _).mono ?_; rintro e w3 ⟨rfl, hb⟩; have HC := Lib.hid hb; clear hb)
  exact ⟨rfl, rfl, ((Below.refl w.heap.size w).alloc (Nat.le_refl _) _).trans (HC.out.mono (by simp))⟩
/-- An expression, as a value: its parts lie in blocks from n on. -/
def exR (n : Nat) (e : Ex) (v : Value) (w' : World) : Prop := ∃ a cap, v = .agg #[.int .u8 e.kind, .int .u8 e.op, .int .i64 e.wd, .string e.name, .slice a e.kids.length cap, .int .i64 e.pos] ∧ exsAt (fun b => n ≤ b) w' e.kids a
theorem p_number (t : Tk) (d : Int) (w : World) : Calls Tryd.prog 91 #[tkV t, .int .i64 d] w fun e w' => e = .returned (.agg #[.int .u8 1, .int .u8 0, .int .i64 t.wd, .string ⟨#[]⟩, .slice none 0 0, .int .i64 t.pos]) ∧ Below w.heap.size w w' := by
  obtain ⟨tk, tx, tw, tp⟩ := t
  have O0 := Own.new (w.alloc (.cells #[.int .u8 tk, .string tx, .int .i64 tw, .int .i64 tp] 49)) 26 zEx
  rw [World.size_alloc] at O0
  unfold tkV zEx at *
  go_enter Tryd.func91, Tryd.ntmps91
  go_wp2_with (refine st rowEx rfl rfl O0 rfl rfl (by rfl) (by rfl) (by kernel_rfl) ?_)
  exact p_ret rowEx rfl (O0.row #[.int .u8 1, .int .u8 0, .int .i64 tw, .string ⟨#[]⟩, .slice none 0 0, .int .i64 tp]) rfl rfl rfl ⟨rfl, below_setRow ((((Below.refl _ w).alloc (Nat.le_refl _) _)).alloc (by simp) _) (by simp) _⟩
theorem p_variable (t : Tk) (d : Int) (w : World) : Calls Tryd.prog 92 #[tkV t, .int .i64 d] w fun e w' => e = .returned (.agg #[.int .u8 2, .int .u8 0, .int .i64 0, .string t.text, .slice none 0 0, .int .i64 t.pos]) ∧ Below w.heap.size w w' := by
  obtain ⟨tk, tx, tw, tp⟩ := t
  have O0 := Own.new (w.alloc (.cells #[.int .u8 tk, .string tx, .int .i64 tw, .int .i64 tp] 49)) 26 zEx
  rw [World.size_alloc] at O0
  unfold tkV zEx at *
  go_enter Tryd.func92, Tryd.ntmps92
  go_wp2_with (refine st rowEx rfl rfl O0 rfl rfl (by rfl) (by rfl) (by kernel_rfl) ?_)
  exact p_ret rowEx rfl (O0.row #[.int .u8 2, .int .u8 0, .int .i64 0, .string tx, .slice none 0 0, .int .i64 tp]) rfl rfl rfl ⟨rfl, below_setRow ((((Below.refl _ w).alloc (Nat.le_refl _) _)).alloc (by simp) _) (by simp) _⟩
end Go.Proofs.YtjpmdafaaonpoaaDoor

namespace Go.Proofs.YtjpmdafaaonpoaaDoor
open Go.RowKit
set_option linter.unusedVariables false
section
variable {P : Program} {md : Region.Mode} {ops : Array Oper} {Q : Exit → Act → World → Prop} {S : World → Prop} {fuel : Nat} {listed : Array Bool} {a : Act} {w : World}
theorem wanted_free {o : Oper} (h : o.guard = none) (y : Nat → Option Bool) : Region.wanted o y = true := by simp [Region.wanted, h]
/-- A quiet operation, first. -/
theorem dr_take (i : Nat) {oi : Oper} (v : Value) (hi : ops[i]? = some oi) (hg : oi.guard = none) (hs : Region.noSelect ops = true) (hf : Region.free md ops listed i = true) (hr : (Region.ready md ops listed).contains i = true)
    (hQ : ∀ c a w, Q (.panic c) (a.put oi.dst v) w → Q (.panic c) a w) (hrun : ∀ w, S w → (execOp a.eval oi).run P w = .ok (.value v) w) (hS : S w)
    (h : wpAnyH P md ops Q S fuel (listed.setIfInBounds i true) (a.put oi.dst v) w) : wpAnyH P md ops Q S (fuel + 1) listed a w :=
  wpAnyH_take hi hs hf hr hQ (.inl ⟨by simp [Region.wanted, hg], hrun⟩) hS h
/-- One operation alone may come up. -/
theorem dr_one (i : Nat) {oi : Oper} (hi : ops[i]? = some oi) (hg : oi.guard = none) (hr : Region.ready md ops listed = [i])
    (h : oi.wp P a w (fun a' w' => S w' ∧ wpAnyH P md ops Q S fuel (listed.setIfInBounds i true) a' w') Q) : wpAnyH P md ops Q S (fuel + 1) listed a w := by
  refine wpAnyH_all hr (by simp) fun j hj => ?_
  obtain rfl : j = i := by simpa using hj
  unfold wpOp
  simp only [hi, Region.wanted, hg]
  exact .inl h
/-- Two operations may come up. -/
theorem dr_two (i k : Nat) {oi ok : Oper} (hi : ops[i]? = some oi) (hk : ops[k]? = some ok) (hg : oi.guard = none) (hgk : ok.guard = none) (hr : Region.ready md ops listed = [i, k])
    (h : oi.wp P a w (fun a' w' => S w' ∧ wpAnyH P md ops Q S fuel (listed.setIfInBounds i true) a' w') Q)
    (h' : ok.wp P a w (fun a' w' => S w' ∧ wpAnyH P md ops Q S fuel (listed.setIfInBounds k true) a' w') Q) : wpAnyH P md ops Q S (fuel + 1) listed a w := by
  refine wpAnyH_all hr (by simp) fun j hj => ?_
  have hj' : j = i ∨ j = k := by simpa using hj
  unfold wpOp
  rcases hj' with rfl | rfl
  · simp only [hi, Region.wanted, hg]; exact .inl h
  · simp only [hk, Region.wanted, hgk]; exact .inl h'
/-- A call. -/
theorem wp_call {o : Oper} {K : Act → World → Prop} {x : Operand} {args : Array Operand} {ts : Array TypeId} (ho : o.op = .call { callee := .value x, args := args, argTypes := ts }) {f : FuncId} {fst cap : Array Value} (hx : a.eval x = .func (.func f) fst cap) (hE : ∀ (args : Array Value) (w : World), (callFunc f args).run P w = .ok (.enter f args) w)
    {vs : Array Value} (hv : fst ++ args.map a.eval ++ cap = vs) {R : Ending → World → Prop} (hc : Calls P f vs w R) (hk : ∀ e w', R e w' → (match e with | .returned v => K (a.put o.dst v) w' | .panicked ch => Q (.panic ch) a w' | .outgrown => LetsOut Q)) : o.wp P a w K Q := by
  have h1 : ∀ ty, resolve a.eval { callee := .value x, args := args, argTypes := ts } ty = pure { target := .fn (.func f) cap, args := fst ++ args.map a.eval } := fun ty => by
    unfold resolve
    simp only [hx]
    rfl
  have hrun : (execOp a.eval o).run P w = .ok (.enter f vs) w := by
    unfold execOp
    simp only [ho, h1]
    obtain ⟨us, hus⟩ : ∃ us, us = args.map a.eval := ⟨_, rfl⟩
    rw [← hus] at hv ⊢
    simp [invoke, go_sem, hE, hv]
  unfold Oper.wp
  rw [hrun, Oper.upon_enter]
  exact hc.mono fun e w' h => by have := hk e w' h; cases e <;> exact this
end
theorem run_ld {o : Oper} {a : Act} {w : World} {T : TypeId} {n : Nat} (hT : RowT T n) {x : Operand} (ho : o.op = .load T x) {g : Nat} (hx : a.eval x = .pointer (some ⟨g, 0, none⟩)) {cs : Array Value} (hg : Own w g T cs) (hn : cs.size = n) : (execOp a.eval o).run Tryd.prog w = .ok (.value (.agg cs)) w := by
  obtain ⟨d, h1, h2, h3⟩ := hT
  unfold execOp
  simp only [ho, hx, Instr.loadAt, Instr.sureAddr, Sem.run_bind, Sem.run_pure, Result.andThen_ok, run_loadVar_row w g T T cs (0, 0) d hg h1 (by cases d <;> first | rfl | cases h2) (by rw [h3, hn])]
set_option maxHeartbeats 1000000 in
theorem wp_alloc_ex {o : Oper} {a : Act} {w : World} {K : Act → World → Prop} {Q : Exit → Act → World → Prop} (ho : o.op = .alloc 26) (h : K (a.put o.dst (.pointer (some ⟨w.heap.size, 0, none⟩))) (w.alloc (.cells zEx 26))) : o.wp Tryd.prog a w K Q := by
  have hrun : (execOp a.eval o).run Tryd.prog w = .ok (.value (.pointer (some ⟨w.heap.size, 0, none⟩))) (w.alloc (.cells zEx 26)) := by
    unfold execOp
    simp only [ho]
    go_simp
    rfl
  unfold Oper.wp
  rw [hrun]
  exact h
end Go.Proofs.YtjpmdafaaonpoaaDoor

namespace Go.Proofs.YtjpmdafaaonpoaaDoor
open Go.RowKit
set_option linter.unusedVariables false

/-- The contract of operand, with so much fuel. -/
def OpndC (n : Nat) : Prop := ∀ (c : Par) (w : World) (k : Nat) (d : Int), Rd c w k → 0 ≤ d → d ≤ 64 → 3 * (c.at k).length + 1 ≤ n →
  Calls Tryd.prog 62 #[c.ptr, .int .i64 d] w (RdPost c w (opnd fnd c.L n d (c.at k)) (exR w.heap.size))
/-- The contract of binary. -/
def BinC (n : Nat) : Prop := ∀ (c : Par) (w : World) (k : Nat) (v d : Int), Rd c w k → 1 ≤ v → v ≤ 9 → 0 ≤ d → d ≤ 64 → 3 * (c.at k).length + 2 ≤ n →
  Calls Tryd.prog 37 #[c.ptr, .int .i64 v, .int .i64 d] w (RdPost c w (binE fnd c.L n v d (c.at k)) (exR w.heap.size))
/-- What holds in operands of one, within their function. -/
structure UnG (c : Par) (w : World) (b : Nat) (op : Int) (t : Tk) (W : World) (j : Nat) : Prop where
  run : At c w W j
  box : W.cell? ⟨b, 0, none⟩ = some (.pointer (some ⟨c.X, 0, none⟩))
  opr : W.cell? ⟨b + 1, 0, none⟩ = some (.int .u8 op)
  tok : Own W w.heap.size 49 #[.int .u8 t.kind, .string t.text, .int .i64 t.wd, .int .i64 t.pos]
  res : Own W (w.heap.size + 1) 26 zEx
section
variable {c : Par} {w W W' : World} {b : Nat} {op : Int} {t : Tk} {j k2 : Nat}
theorem UnG.below (h : UnG c w b op t W j) (hb : Below W.heap.size W W') : UnG c w b op t W' j :=
  ⟨h.run.below hb, (hb.cell (p := ⟨b, 0, none⟩) (by have := cell_lt h.box; simpa using this)).trans h.box, (hb.cell (p := ⟨b + 1, 0, none⟩) (by have := cell_lt h.opr; simpa using this)).trans h.opr, h.tok.below hb, h.res.below hb⟩
theorem UnG.alloc (h : UnG c w b op t W j) (o : Obj) : UnG c w b op t (W.alloc o) j := h.below ((Below.refl _ W).alloc (Nat.le_refl _) o)
theorem UnG.drew (h : UnG c w b op t W j) : UnG c w b op t W.drew j := ⟨h.run.drew, h.box, h.opr, h.tok, h.res⟩
theorem UnG.call (h : UnG c w b op t W j) (hf : Fr c W W') (hp : At c w W' k2) (hX : c.X < w.heap.size) (h1 : b ≠ c.X) (h2 : b + 1 ≠ c.X) : UnG c w b op t W' k2 :=
  ⟨hp, (hf.cell (by have := cell_lt h.box; simpa using this) h1).trans h.box, (hf.cell (by have := cell_lt h.opr; simpa using this) h2).trans h.opr, h.tok.fr hf (by omega), h.res.fr hf (by omega)⟩
theorem UnG.row (h : UnG c w b op t W j) (cs : Array Value) {g : Nat} (hg : w.heap.size + 1 < g) (hX : c.X < w.heap.size) (h1 : b ≠ c.X) (h2 : b + 1 ≠ c.X) (hb : b + 1 < w.heap.size) : UnG c w b op t (W.setRow g cs) j := by
  have e : ∀ x, x ≠ g → (W.setRow g cs).cell? ⟨x, 0, none⟩ = W.cell? ⟨x, 0, none⟩ := fun x hx => by
    have := setRow_other (W := W) cs hx
    simp only [World.cell?, this]
  exact ⟨h.run.setRow (by omega) (by omega) cs, (e b (by omega)).trans h.box, (e (b + 1) (by omega)).trans h.opr, h.tok.other cs (by omega), h.res.other cs (by omega)⟩
end
set_option maxRecDepth 100000 in
set_option maxHeartbeats 4000000 in
theorem p_unary {n : Nat} (H : OpndC n) {c : Par} {w : World} {k : Nat} (R : Rd c w k) (t : Tk) (d op : Int) (b : Nat) (h0 : 0 ≤ d) (h1 : d < 64) (hn : 3 * (c.at k).length + 1 ≤ n) (hb1 : Own w b 59 #[c.ptr]) (hb2 : Own w (b + 1) 23 #[.int .u8 op]) (hx0 : b ≠ c.X) (hx1 : b + 1 ≠ c.X) :
    Calls Tryd.prog 89 #[tkV t, .int .i64 d, .pointer (some ⟨b, 0, none⟩), .pointer (some ⟨b + 1, 0, none⟩)] w
      (RdPost c w ((opnd fnd c.L n (d + 1) (c.at k)).then fun e r => .ok (unX op t.pos e) r) (exR w.heap.size)) := by
  obtain ⟨Y, hY⟩ : ∃ Y, Y = opnd fnd c.L n (d + 1) (c.at k) := ⟨_, rfl⟩
  have HC : Hid (∀ W, Rd c W k → Calls Tryd.prog 62 #[c.ptr, .int .i64 (d + 1)] W (RdPost c W Y (exR W.heap.size))) := fun W RW => by rw [hY]; exact H c W k (d + 1) RW (by omega) (by omega) hn
  have HR := Lib.hid R
  rw [← hY]
  obtain ⟨tk, tx, tw, tp⟩ := t
  have hd := Lib.hid (fun W => p_deeper_ok ⟨tk, tx, tw, tp⟩ d h0 h1 W)
  have c1 : w.cell? ⟨b, 0, none⟩ = some c.ptr := by rw [cell_of_row w b 0 _ _ _ hb1]; rfl
  have c2 : w.cell? ⟨b + 1, 0, none⟩ = some (.int .u8 op) := by rw [cell_of_row w (b + 1) 0 _ _ _ hb2]; rfl
  have hX := Lib.hid R.lt
  have HX := Lib.hid (And.intro hx0 hx1)
  have HL := Lib.hid (And.intro hb1.lt hb2.lt)
  clear hY H R hn hb1 hb2 hx0 hx1
  unfold tkV Par.ptr at *
  go_enter Tryd.func89, Tryd.ntmps89
  go_wp2_with fail
  have G0 : UnG c w b op ⟨tk, tx, tw, tp⟩ ((w.alloc (.cells #[.int .u8 tk, .string tx, .int .i64 tw, .int .i64 tp] 49)).alloc (.cells zEx 26)).drew k := by
    have hb := ((Below.refl w.heap.size w).alloc (Nat.le_refl _) (.cells #[.int .u8 tk, .string tx, .int .i64 tw, .int .i64 tp] 49)).alloc (by simp) (.cells zEx 26)
    have o2 := Own.new (w.alloc (.cells #[.int .u8 tk, .string tx, .int .i64 tw, .int .i64 tp] 49)) 26 zEx
    rw [World.size_alloc] at o2
    exact UnG.drew ⟨((At.start HR.out).alloc _).alloc _, (hb.cell (p := ⟨b, 0, none⟩) HL.out.1).trans c1, (hb.cell (p := ⟨b + 1, 0, none⟩) HL.out.2).trans c2, (Own.new w _ _).alloc _, o2⟩
  rename_i Q1 K1 hK1
  have tail : ∀ (g : Nat) (W : World) (e0 : Ex) (a4 : Option Addr) (cap4 k2 : Nat), Y = .ok e0 (c.at k2) → UnG c w b op ⟨tk, tx, tw, tp⟩ W k2 → Own W g 26 #[.int .u8 e0.kind, .int .u8 e0.op, .int .i64 e0.wd, .string e0.name, .slice a4 e0.kids.length cap4, .int .i64 e0.pos] → w.heap.size + 1 < g → exsAt (fun b => w.heap.size + 1 < b ∧ b ≠ g) W e0.kids a4 →
      K1 { tmps := #[.agg #[.int .u8 tk, .string tx, .int .i64 tw, .int .i64 tp], .int .i64 d, .pointer (some ⟨b, 0, none⟩), .pointer (some ⟨b + 1, 0, none⟩), .pointer (some ⟨w.heap.size, 0, none⟩), undef, .pointer (some ⟨w.heap.size + 1, 0, none⟩), .pointer (some ⟨g, 0, none⟩), .pointer (some ⟨c.X, 0, none⟩), .agg #[.int .u8 tk, .string tx, .int .i64 tw, .int .i64 tp], .int .i64 d, .int .i64 (d + 1),
        .agg #[.int .u8 e0.kind, .int .u8 e0.op, .int .i64 e0.wd, .string e0.name, .slice a4 e0.kids.length cap4, .int .i64 e0.pos], undef, undef, undef, undef, undef, undef], defers := [] } W := by
    intro g W e0 a4 cap4 k2 hY hG hg hlt hV
    subst hY
    have HG := Lib.hid hG
    have HV := Lib.hid hV
    have HLT := Lib.hid hlt
    have co := hG.opr
    have ct : W.cell? ⟨w.heap.size, 3, none⟩ = some (.int .i64 tp) := by rw [cell_of_row W w.heap.size 3 _ _ _ hG.tok]; rfl
    have lt := hG.tok.lt
    have O6 := hG.res.alloc (.cells #[.int .u8 e0.kind, .int .u8 e0.op, .int .i64 e0.wd, .string e0.name, .slice a4 e0.kids.length cap4, .int .i64 e0.pos] 26)
    have N0 := Lib.hid (Own.new W 26 #[.int .u8 e0.kind, .int .u8 e0.op, .int .i64 e0.wd, .string e0.name, .slice a4 e0.kids.length cap4, .int .i64 e0.pos])
    clear hG hV hlt
    apply hK1
    go_wp2_with (first | (refine ld rowEx rfl rfl rfl hg rfl ?_) | (refine st rowEx rfl rfl O6 rfl rfl (by rfl) (by rfl) (by kernel_rfl) ?_))
    have hsz := HG.out.res.lt
    refine p_ret rowEx rfl (O6.row #[.int .u8 3, .int .u8 op, .int .i64 0, .string ⟨#[]⟩, .slice (some ⟨W.heap.size, 0, none⟩) 1 1, .int .i64 tp]) rfl rfl rfl ?_
    have hXX := hX.out
    have A4 := (HG.out.run.alloc (.cells #[.int .u8 e0.kind, .int .u8 e0.op, .int .i64 e0.wd, .string e0.name, .slice a4 e0.kids.length cap4, .int .i64 e0.pos] 26)).setRow (g := w.heap.size + 1) (by omega) (by omega) #[.int .u8 3, .int .u8 op, .int .i64 0, .string ⟨#[]⟩, .slice (some ⟨W.heap.size, 0, none⟩) 1 1, .int .i64 tp]
    refine ⟨A4.fr, _, k2, rfl, ⟨_, _, rfl, ?_⟩, A4.rd HR.out, rfl⟩
    refine .inr ⟨W.heap.size, 0, rfl, by omega, ?_, trivial⟩
    have hst : Stays (fun b => w.heap.size + 1 < b ∧ b ≠ g) W ((W.alloc (.cells #[.int .u8 e0.kind, .int .u8 e0.op, .int .i64 e0.wd, .string e0.name, .slice a4 e0.kids.length cap4, .int .i64 e0.pos] 26)).setRow (w.heap.size + 1) #[.int .u8 3, .int .u8 op, .int .i64 0, .string ⟨#[]⟩, .slice (some ⟨W.heap.size, 0, none⟩) 1 1, .int .i64 tp]) :=
      (stays_alloc _ W _).trans (stays_row _ _ (fun b hb => by omega))
    refine exIn_of (vs := exCells e0 a4 cap4) ⟨a4, cap4, rfl, exsAt_stays hst (fun b hb => by omega) HV.out⟩ ?_
    have N1 := N0.out.other #[.int .u8 3, .int .u8 op, .int .i64 0, .string ⟨#[]⟩, .slice (some ⟨W.heap.size, 0, none⟩) 1 1, .int .i64 tp] (g := w.heap.size + 1) (by omega)
    intro j v hj
    rw [Nat.zero_add, cell_of_row _ W.heap.size j _ _ _ N1, ← hj]
    simp [exCells]
  refine wp_region_held (S := fun W => W.cell? ⟨b, 0, none⟩ = some (.pointer (some ⟨c.X, 0, none⟩)) ∧ Own W w.heap.size 49 #[.int .u8 tk, .string tx, .int .i64 tw, .int .i64 tp]) (by kernel_rfl) ?_
  obtain ⟨W0, hW0⟩ : ∃ W0, W0 = ((w.alloc (.cells #[.int .u8 tk, .string tx, .int .i64 tw, .int .i64 tp] 49)).alloc (.cells zEx 26)).drew := ⟨_, rfl⟩
  change wpAnyH _ _ _ _ _ _ _ _ ((w.alloc (.cells #[.int .u8 tk, .string tx, .int .i64 tw, .int .i64 tp] 49)).alloc (.cells zEx 26)).drew
  rw [← hW0] at G0 ⊢
  clear hW0
  refine dr_take 0 (.pointer (some ⟨c.X, 0, none⟩)) rfl rfl (by kernel_rfl) (by kernel_rfl) (by kernel_rfl) (fun _ _ _ h => h) ?_ ⟨G0.box, G0.tok⟩ ?_
  · rintro w' ⟨s1, s2⟩
    unfold execOp
    go_simp
  change wpAnyH _ _ _ _ _ _ _ { tmps := #[.agg #[.int .u8 tk, .string tx, .int .i64 tw, .int .i64 tp], .int .i64 d, .pointer (some ⟨b, 0, none⟩), .pointer (some ⟨b + 1, 0, none⟩), .pointer (some ⟨w.heap.size, 0, none⟩), undef, .pointer (some ⟨w.heap.size + 1, 0, none⟩), undef, .pointer (some ⟨c.X, 0, none⟩), undef, undef, undef, undef, undef, undef, undef, undef, undef, undef], defers := [] } _
  refine dr_take 1 (.agg #[.int .u8 tk, .string tx, .int .i64 tw, .int .i64 tp]) rfl rfl (by kernel_rfl) (by kernel_rfl) (by kernel_rfl) (fun _ _ _ h => h) ?_ ⟨G0.box, G0.tok⟩ ?_
  · rintro w' ⟨s1, s2⟩
    exact run_ld rowTok rfl rfl s2 rfl
  change wpAnyH _ _ _ _ _ _ _ { tmps := #[.agg #[.int .u8 tk, .string tx, .int .i64 tw, .int .i64 tp], .int .i64 d, .pointer (some ⟨b, 0, none⟩), .pointer (some ⟨b + 1, 0, none⟩), .pointer (some ⟨w.heap.size, 0, none⟩), undef, .pointer (some ⟨w.heap.size + 1, 0, none⟩), undef, .pointer (some ⟨c.X, 0, none⟩), .agg #[.int .u8 tk, .string tx, .int .i64 tw, .int .i64 tp], undef, undef, undef, undef, undef, undef, undef, undef, undef], defers := [] } _
  refine dr_take 2 (.int .i64 d) rfl rfl (by kernel_rfl) (by kernel_rfl) (by kernel_rfl) (fun _ _ _ h => h) (fun _ _ => rfl) ⟨G0.box, G0.tok⟩ ?_
  change wpAnyH _ _ _ _ _ _ _ { tmps := #[.agg #[.int .u8 tk, .string tx, .int .i64 tw, .int .i64 tp], .int .i64 d, .pointer (some ⟨b, 0, none⟩), .pointer (some ⟨b + 1, 0, none⟩), .pointer (some ⟨w.heap.size, 0, none⟩), undef, .pointer (some ⟨w.heap.size + 1, 0, none⟩), undef, .pointer (some ⟨c.X, 0, none⟩), .agg #[.int .u8 tk, .string tx, .int .i64 tw, .int .i64 tp], .int .i64 d, undef, undef, undef, undef, undef, undef, undef, undef], defers := [] } _
  refine dr_two 3 5 rfl rfl rfl rfl (by kernel_rfl) ?_ ?_
  · refine wp_call (vs := #[.agg #[.int .u8 tk, .string tx, .int .i64 tw, .int .i64 tp], .int .i64 d]) rfl rfl (enters_of Tryd.func90 (by kernel_rfl) rfl) (by simp [Act.eval]) (hd.out _) ?_
    rintro e w1 ⟨rfl, hb⟩
    have G1 := G0.below hb
    refine ⟨⟨G1.box, G1.tok⟩, ?_⟩
    change wpAnyH _ _ _ _ _ _ _ { tmps := #[.agg #[.int .u8 tk, .string tx, .int .i64 tw, .int .i64 tp], .int .i64 d, .pointer (some ⟨b, 0, none⟩), .pointer (some ⟨b + 1, 0, none⟩), .pointer (some ⟨w.heap.size, 0, none⟩), undef, .pointer (some ⟨w.heap.size + 1, 0, none⟩), undef, .pointer (some ⟨c.X, 0, none⟩), .agg #[.int .u8 tk, .string tx, .int .i64 tw, .int .i64 tp], .int .i64 d, .int .i64 (d + 1), undef, undef, undef, undef, undef, undef, undef], defers := [] } _
    refine dr_two 4 5 rfl rfl rfl rfl (by kernel_rfl) ?_ ?_
    · refine wp_call (vs := #[.pointer (some ⟨c.X, 0, none⟩), .int .i64 (d + 1)]) rfl rfl (enters_of Tryd.func62 (by kernel_rfl) rfl) (by simp [Act.eval]) (HC.out _ (G1.run.rd HR.out)) ?_
      rintro e w2 ⟨hf2, hm⟩
      rcases Y with ⟨e0, r0⟩ | ⟨p, q⟩
      rotate_left
      · obtain rfl := hm
        exact ⟨rfl, G1.run.fr.trans hf2, rfl⟩
      obtain ⟨v, k2, rfl, ⟨a4, cap4, rfl, hV⟩, hR2, rfl⟩ := hm
      have G2 := G1.call hf2 (G1.run.call hf2 hR2) hX.out HX.out.1 HX.out.2
      refine ⟨⟨G2.box, G2.tok⟩, ?_⟩
      change wpAnyH _ _ _ _ _ _ _ { tmps := #[.agg #[.int .u8 tk, .string tx, .int .i64 tw, .int .i64 tp], .int .i64 d, .pointer (some ⟨b, 0, none⟩), .pointer (some ⟨b + 1, 0, none⟩), .pointer (some ⟨w.heap.size, 0, none⟩), undef, .pointer (some ⟨w.heap.size + 1, 0, none⟩), undef, .pointer (some ⟨c.X, 0, none⟩), .agg #[.int .u8 tk, .string tx, .int .i64 tw, .int .i64 tp], .int .i64 d, .int .i64 (d + 1), .agg #[.int .u8 e0.kind, .int .u8 e0.op, .int .i64 e0.wd, .string e0.name, .slice a4 e0.kids.length cap4, .int .i64 e0.pos], undef, undef, undef, undef, undef, undef], defers := [] } _
      refine dr_one 5 rfl rfl (by kernel_rfl) ?_
      refine wp_alloc_ex rfl ⟨⟨(G2.alloc _).box, (G2.alloc _).tok⟩, ?_⟩
      change wpAnyH _ _ _ _ _ _ _ { tmps := #[.agg #[.int .u8 tk, .string tx, .int .i64 tw, .int .i64 tp], .int .i64 d, .pointer (some ⟨b, 0, none⟩), .pointer (some ⟨b + 1, 0, none⟩), .pointer (some ⟨w.heap.size, 0, none⟩), undef, .pointer (some ⟨w.heap.size + 1, 0, none⟩), .pointer (some ⟨w2.heap.size, 0, none⟩), .pointer (some ⟨c.X, 0, none⟩), .agg #[.int .u8 tk, .string tx, .int .i64 tw, .int .i64 tp], .int .i64 d, .int .i64 (d + 1), .agg #[.int .u8 e0.kind, .int .u8 e0.op, .int .i64 e0.wd, .string e0.name, .slice a4 e0.kids.length cap4, .int .i64 e0.pos], undef, undef, undef, undef, undef, undef], defers := [] } _
      refine dr_one 6 rfl rfl (by kernel_rfl) ?_
      have hO := Own.new w2 26 zEx
      have hs := G2.res.lt
      refine wp_store_row 26 _ _ rfl w2.heap.size #[.int .u8 e0.kind, .int .u8 e0.op, .int .i64 e0.wd, .string e0.name, .slice a4 e0.kids.length cap4, .int .i64 e0.pos] rfl rfl 26 zEx hO (by kernel_rfl) rfl (by kernel_rfl) ?_
      have G3 := (G2.alloc (.cells zEx 26)).row #[.int .u8 e0.kind, .int .u8 e0.op, .int .i64 e0.wd, .string e0.name, .slice a4 e0.kids.length cap4, .int .i64 e0.pos] (g := w2.heap.size) (by omega) hX.out HX.out.1 HX.out.2 HL.out.2
      refine ⟨⟨G3.box, G3.tok⟩, wpAnyH_done (by kernel_rfl) ?_ _⟩
      refine tail w2.heap.size _ e0 a4 cap4 k2 rfl G3 (hO.row _) (by omega) ?_
      have hV2 := exsAt_stays ((stays_alloc _ w2 (.cells zEx 26)).trans (stays_row _ (g := w2.heap.size) #[.int .u8 e0.kind, .int .u8 e0.op, .int .i64 e0.wd, .string e0.name, .slice a4 e0.kids.length cap4, .int .i64 e0.pos] (fun b hb => by have := hb.2; omega))) (fun b hb => hb) (exsAt_in hV)
      exact exsAt_mono hV2 (fun b hb => by have h1 := hb.1; have h2 := hb.2; have h3 := G1.res.lt; omega)
    · refine wp_alloc_ex rfl ⟨⟨(G1.alloc _).box, (G1.alloc _).tok⟩, ?_⟩
      change wpAnyH _ _ _ _ _ _ _ { tmps := #[.agg #[.int .u8 tk, .string tx, .int .i64 tw, .int .i64 tp], .int .i64 d, .pointer (some ⟨b, 0, none⟩), .pointer (some ⟨b + 1, 0, none⟩), .pointer (some ⟨w.heap.size, 0, none⟩), undef, .pointer (some ⟨w.heap.size + 1, 0, none⟩), .pointer (some ⟨w1.heap.size, 0, none⟩), .pointer (some ⟨c.X, 0, none⟩), .agg #[.int .u8 tk, .string tx, .int .i64 tw, .int .i64 tp], .int .i64 d, .int .i64 (d + 1), undef, undef, undef, undef, undef, undef, undef], defers := [] } _
      have G1' := G1.alloc (.cells zEx 26)
      have hO1 := Own.new w1 26 zEx
      have hs1 := G1.res.lt
      refine dr_one 4 rfl rfl (by kernel_rfl) ?_
      refine wp_call (vs := #[.pointer (some ⟨c.X, 0, none⟩), .int .i64 (d + 1)]) rfl rfl (enters_of Tryd.func62 (by kernel_rfl) rfl) (by simp [Act.eval]) (HC.out _ (G1'.run.rd HR.out)) ?_
      rintro e w2 ⟨hf2, hm⟩
      rcases Y with ⟨e0, r0⟩ | ⟨p, q⟩
      rotate_left
      · obtain rfl := hm
        exact ⟨rfl, G1'.run.fr.trans hf2, rfl⟩
      obtain ⟨v, k2, rfl, ⟨a4, cap4, rfl, hV⟩, hR2, rfl⟩ := hm
      have G2 := G1'.call hf2 (G1'.run.call hf2 hR2) hX.out HX.out.1 HX.out.2
      refine ⟨⟨G2.box, G2.tok⟩, ?_⟩
      change wpAnyH _ _ _ _ _ _ _ { tmps := #[.agg #[.int .u8 tk, .string tx, .int .i64 tw, .int .i64 tp], .int .i64 d, .pointer (some ⟨b, 0, none⟩), .pointer (some ⟨b + 1, 0, none⟩), .pointer (some ⟨w.heap.size, 0, none⟩), undef, .pointer (some ⟨w.heap.size + 1, 0, none⟩), .pointer (some ⟨w1.heap.size, 0, none⟩), .pointer (some ⟨c.X, 0, none⟩), .agg #[.int .u8 tk, .string tx, .int .i64 tw, .int .i64 tp], .int .i64 d, .int .i64 (d + 1), .agg #[.int .u8 e0.kind, .int .u8 e0.op, .int .i64 e0.wd, .string e0.name, .slice a4 e0.kids.length cap4, .int .i64 e0.pos], undef, undef, undef, undef, undef, undef], defers := [] } _
      refine dr_one 6 rfl rfl (by kernel_rfl) ?_
      have hXX := hX.out
      have hO := hO1.fr hf2 (by omega)
      refine wp_store_row 26 _ _ rfl w1.heap.size #[.int .u8 e0.kind, .int .u8 e0.op, .int .i64 e0.wd, .string e0.name, .slice a4 e0.kids.length cap4, .int .i64 e0.pos] rfl rfl 26 zEx hO (by kernel_rfl) rfl (by kernel_rfl) ?_
      have G3 := G2.row #[.int .u8 e0.kind, .int .u8 e0.op, .int .i64 e0.wd, .string e0.name, .slice a4 e0.kids.length cap4, .int .i64 e0.pos] (g := w1.heap.size) (by omega) hX.out HX.out.1 HX.out.2 HL.out.2
      refine ⟨⟨G3.box, G3.tok⟩, wpAnyH_done (by kernel_rfl) ?_ _⟩
      refine tail w1.heap.size _ e0 a4 cap4 k2 rfl G3 (hO.row _) (by omega) ?_
      have hV2 := exsAt_stays (stays_row _ (g := w1.heap.size) #[.int .u8 e0.kind, .int .u8 e0.op, .int .i64 e0.wd, .string e0.name, .slice a4 e0.kids.length cap4, .int .i64 e0.pos] (fun b hb => by have := hb; simp at this; omega)) (fun b hb => hb) hV
      exact exsAt_mono hV2 (fun b hb => by simp at hb; omega)
  · refine wp_alloc_ex rfl ⟨⟨(G0.alloc _).box, (G0.alloc _).tok⟩, ?_⟩
    change wpAnyH _ _ _ _ _ _ _ { tmps := #[.agg #[.int .u8 tk, .string tx, .int .i64 tw, .int .i64 tp], .int .i64 d, .pointer (some ⟨b, 0, none⟩), .pointer (some ⟨b + 1, 0, none⟩), .pointer (some ⟨w.heap.size, 0, none⟩), undef, .pointer (some ⟨w.heap.size + 1, 0, none⟩), .pointer (some ⟨W0.heap.size, 0, none⟩), .pointer (some ⟨c.X, 0, none⟩), .agg #[.int .u8 tk, .string tx, .int .i64 tw, .int .i64 tp], .int .i64 d, undef, undef, undef, undef, undef, undef, undef, undef], defers := [] } _
    have G0' := G0.alloc (.cells zEx 26)
    have hO0 := Own.new W0 26 zEx
    have hs0 := G0.res.lt
    refine dr_one 3 rfl rfl (by kernel_rfl) ?_
    refine wp_call (vs := #[.agg #[.int .u8 tk, .string tx, .int .i64 tw, .int .i64 tp], .int .i64 d]) rfl rfl (enters_of Tryd.func90 (by kernel_rfl) rfl) (by simp [Act.eval]) (hd.out _) ?_
    rintro e w1 ⟨rfl, hb⟩
    have G1 := G0'.below hb
    refine ⟨⟨G1.box, G1.tok⟩, ?_⟩
    change wpAnyH _ _ _ _ _ _ _ { tmps := #[.agg #[.int .u8 tk, .string tx, .int .i64 tw, .int .i64 tp], .int .i64 d, .pointer (some ⟨b, 0, none⟩), .pointer (some ⟨b + 1, 0, none⟩), .pointer (some ⟨w.heap.size, 0, none⟩), undef, .pointer (some ⟨w.heap.size + 1, 0, none⟩), .pointer (some ⟨W0.heap.size, 0, none⟩), .pointer (some ⟨c.X, 0, none⟩), .agg #[.int .u8 tk, .string tx, .int .i64 tw, .int .i64 tp], .int .i64 d, .int .i64 (d + 1), undef, undef, undef, undef, undef, undef, undef], defers := [] } _
    have hz1 := hb.size
    have hO1 := hO0.below hb
    refine dr_one 4 rfl rfl (by kernel_rfl) ?_
    refine wp_call (vs := #[.pointer (some ⟨c.X, 0, none⟩), .int .i64 (d + 1)]) rfl rfl (enters_of Tryd.func62 (by kernel_rfl) rfl) (by simp [Act.eval]) (HC.out _ (G1.run.rd HR.out)) ?_
    rintro e w2 ⟨hf2, hm⟩
    rcases Y with ⟨e0, r0⟩ | ⟨p, q⟩
    rotate_left
    · obtain rfl := hm
      exact ⟨rfl, G1.run.fr.trans hf2, rfl⟩
    obtain ⟨v, k2, rfl, ⟨a4, cap4, rfl, hV⟩, hR2, rfl⟩ := hm
    have G2 := G1.call hf2 (G1.run.call hf2 hR2) hX.out HX.out.1 HX.out.2
    refine ⟨⟨G2.box, G2.tok⟩, ?_⟩
    change wpAnyH _ _ _ _ _ _ _ { tmps := #[.agg #[.int .u8 tk, .string tx, .int .i64 tw, .int .i64 tp], .int .i64 d, .pointer (some ⟨b, 0, none⟩), .pointer (some ⟨b + 1, 0, none⟩), .pointer (some ⟨w.heap.size, 0, none⟩), undef, .pointer (some ⟨w.heap.size + 1, 0, none⟩), .pointer (some ⟨W0.heap.size, 0, none⟩), .pointer (some ⟨c.X, 0, none⟩), .agg #[.int .u8 tk, .string tx, .int .i64 tw, .int .i64 tp], .int .i64 d, .int .i64 (d + 1), .agg #[.int .u8 e0.kind, .int .u8 e0.op, .int .i64 e0.wd, .string e0.name, .slice a4 e0.kids.length cap4, .int .i64 e0.pos], undef, undef, undef, undef, undef, undef], defers := [] } _
    refine dr_one 6 rfl rfl (by kernel_rfl) ?_
    have hXX := hX.out
    have hO := hO1.fr hf2 (by omega)
    have hl1 := hO1.lt
    refine wp_store_row 26 _ _ rfl W0.heap.size #[.int .u8 e0.kind, .int .u8 e0.op, .int .i64 e0.wd, .string e0.name, .slice a4 e0.kids.length cap4, .int .i64 e0.pos] rfl rfl 26 zEx hO (by kernel_rfl) rfl (by kernel_rfl) ?_
    have G3 := G2.row #[.int .u8 e0.kind, .int .u8 e0.op, .int .i64 e0.wd, .string e0.name, .slice a4 e0.kids.length cap4, .int .i64 e0.pos] (g := W0.heap.size) (by omega) hX.out HX.out.1 HX.out.2 HL.out.2
    refine ⟨⟨G3.box, G3.tok⟩, wpAnyH_done (by kernel_rfl) ?_ _⟩
    refine tail W0.heap.size _ e0 a4 cap4 k2 rfl G3 (hO.row _) (by omega) ?_
    have hV2 := exsAt_stays (stays_row _ (g := W0.heap.size) #[.int .u8 e0.kind, .int .u8 e0.op, .int .i64 e0.wd, .string e0.name, .slice a4 e0.kids.length cap4, .int .i64 e0.pos] (fun b hb => by have := hb; omega)) (fun b hb => hb) hV
    exact exsAt_mono hV2 (fun b hb => by have := hb; omega)
end Go.Proofs.YtjpmdafaaonpoaaDoor

namespace Go.Proofs.YtjpmdafaaonpoaaDoor
open Go.RowKit
set_option linter.unusedVariables false
set_option maxRecDepth 100000 in
set_option maxHeartbeats 4000000 in
theorem p_unary_bad {c : Par} {w : World} {k : Nat} (R : Rd c w k) (t : Tk) (b : Nat) (op : Int) (hb1 : Own w b 59 #[c.ptr]) (hb2 : Own w (b + 1) 23 #[.int .u8 op]) :
    Calls Tryd.prog 89 #[tkV t, .int .i64 64, .pointer (some ⟨b, 0, none⟩), .pointer (some ⟨b + 1, 0, none⟩)] w fun e w' => e = .panicked (flt t.pos 3) ∧ Fr c w w' := by
  have HR := Lib.hid R
  obtain ⟨tk, tx, tw, tp⟩ := t
  have hd := Lib.hid (fun W => p_deeper_bad ⟨tk, tx, tw, tp⟩ W)
  have c1 : w.cell? ⟨b, 0, none⟩ = some c.ptr := by rw [cell_of_row w b 0 _ _ _ hb1]; rfl
  have c2 : w.cell? ⟨b + 1, 0, none⟩ = some (.int .u8 op) := by rw [cell_of_row w (b + 1) 0 _ _ _ hb2]; rfl
  have HL := Lib.hid (And.intro hb1.lt hb2.lt)
  clear R hb1 hb2
  unfold tkV Par.ptr at *
  go_enter Tryd.func89, Tryd.ntmps89
  go_wp2_with fail
  have G0 : UnG c w b op ⟨tk, tx, tw, tp⟩ ((w.alloc (.cells #[.int .u8 tk, .string tx, .int .i64 tw, .int .i64 tp] 49)).alloc (.cells zEx 26)).drew k := by
    have hb := ((Below.refl w.heap.size w).alloc (Nat.le_refl _) (.cells #[.int .u8 tk, .string tx, .int .i64 tw, .int .i64 tp] 49)).alloc (by simp) (.cells zEx 26)
    have o2 := Own.new (w.alloc (.cells #[.int .u8 tk, .string tx, .int .i64 tw, .int .i64 tp] 49)) 26 zEx
    rw [World.size_alloc] at o2
    exact UnG.drew ⟨((At.start HR.out).alloc _).alloc _, (hb.cell (p := ⟨b, 0, none⟩) HL.out.1).trans c1, (hb.cell (p := ⟨b + 1, 0, none⟩) HL.out.2).trans c2, (Own.new w _ _).alloc _, o2⟩
  refine wp_region_held (S := fun W => W.cell? ⟨b, 0, none⟩ = some (.pointer (some ⟨c.X, 0, none⟩)) ∧ Own W w.heap.size 49 #[.int .u8 tk, .string tx, .int .i64 tw, .int .i64 tp]) (by kernel_rfl) ?_
  obtain ⟨W0, hW0⟩ : ∃ W0, W0 = ((w.alloc (.cells #[.int .u8 tk, .string tx, .int .i64 tw, .int .i64 tp] 49)).alloc (.cells zEx 26)).drew := ⟨_, rfl⟩
  change wpAnyH _ _ _ _ _ _ _ _ ((w.alloc (.cells #[.int .u8 tk, .string tx, .int .i64 tw, .int .i64 tp] 49)).alloc (.cells zEx 26)).drew
  rw [← hW0] at G0 ⊢
  clear hW0
  refine dr_take 0 (.pointer (some ⟨c.X, 0, none⟩)) rfl rfl (by kernel_rfl) (by kernel_rfl) (by kernel_rfl) (fun _ _ _ h => h) ?_ ⟨G0.box, G0.tok⟩ ?_
  · rintro w' ⟨s1, s2⟩
    unfold execOp
    go_simp
  change wpAnyH _ _ _ _ _ _ _ { tmps := #[.agg #[.int .u8 tk, .string tx, .int .i64 tw, .int .i64 tp], .int .i64 64, .pointer (some ⟨b, 0, none⟩), .pointer (some ⟨b + 1, 0, none⟩), .pointer (some ⟨w.heap.size, 0, none⟩), undef, .pointer (some ⟨w.heap.size + 1, 0, none⟩), undef, .pointer (some ⟨c.X, 0, none⟩), undef, undef, undef, undef, undef, undef, undef, undef, undef, undef], defers := [] } _
  refine dr_take 1 (.agg #[.int .u8 tk, .string tx, .int .i64 tw, .int .i64 tp]) rfl rfl (by kernel_rfl) (by kernel_rfl) (by kernel_rfl) (fun _ _ _ h => h) ?_ ⟨G0.box, G0.tok⟩ ?_
  · rintro w' ⟨s1, s2⟩
    exact run_ld rowTok rfl rfl s2 rfl
  change wpAnyH _ _ _ _ _ _ _ { tmps := #[.agg #[.int .u8 tk, .string tx, .int .i64 tw, .int .i64 tp], .int .i64 64, .pointer (some ⟨b, 0, none⟩), .pointer (some ⟨b + 1, 0, none⟩), .pointer (some ⟨w.heap.size, 0, none⟩), undef, .pointer (some ⟨w.heap.size + 1, 0, none⟩), undef, .pointer (some ⟨c.X, 0, none⟩), .agg #[.int .u8 tk, .string tx, .int .i64 tw, .int .i64 tp], undef, undef, undef, undef, undef, undef, undef, undef, undef], defers := [] } _
  refine dr_take 2 (.int .i64 64) rfl rfl (by kernel_rfl) (by kernel_rfl) (by kernel_rfl) (fun _ _ _ h => h) (fun _ _ => rfl) ⟨G0.box, G0.tok⟩ ?_
  change wpAnyH _ _ _ _ _ _ _ { tmps := #[.agg #[.int .u8 tk, .string tx, .int .i64 tw, .int .i64 tp], .int .i64 64, .pointer (some ⟨b, 0, none⟩), .pointer (some ⟨b + 1, 0, none⟩), .pointer (some ⟨w.heap.size, 0, none⟩), undef, .pointer (some ⟨w.heap.size + 1, 0, none⟩), undef, .pointer (some ⟨c.X, 0, none⟩), .agg #[.int .u8 tk, .string tx, .int .i64 tw, .int .i64 tp], .int .i64 64, undef, undef, undef, undef, undef, undef, undef, undef], defers := [] } _
  refine dr_two 3 5 rfl rfl rfl rfl (by kernel_rfl) ?_ ?_
  · refine wp_call (vs := #[.agg #[.int .u8 tk, .string tx, .int .i64 tw, .int .i64 tp], .int .i64 64]) rfl rfl (enters_of Tryd.func90 (by kernel_rfl) rfl) (by simp [Act.eval]) (hd.out _) ?_
    rintro e w1 ⟨rfl, hb⟩
    exact ⟨rfl, rfl, G0.run.fr.trans (.of_below hb)⟩
  · refine wp_alloc_ex rfl ⟨⟨(G0.alloc _).box, (G0.alloc _).tok⟩, ?_⟩
    change wpAnyH _ _ _ _ _ _ _ { tmps := #[.agg #[.int .u8 tk, .string tx, .int .i64 tw, .int .i64 tp], .int .i64 64, .pointer (some ⟨b, 0, none⟩), .pointer (some ⟨b + 1, 0, none⟩), .pointer (some ⟨w.heap.size, 0, none⟩), undef, .pointer (some ⟨w.heap.size + 1, 0, none⟩), .pointer (some ⟨W0.heap.size, 0, none⟩), .pointer (some ⟨c.X, 0, none⟩), .agg #[.int .u8 tk, .string tx, .int .i64 tw, .int .i64 tp], .int .i64 64, undef, undef, undef, undef, undef, undef, undef, undef], defers := [] } _
    refine dr_one 3 rfl rfl (by kernel_rfl) ?_
    refine wp_call (vs := #[.agg #[.int .u8 tk, .string tx, .int .i64 tw, .int .i64 tp], .int .i64 64]) rfl rfl (enters_of Tryd.func90 (by kernel_rfl) rfl) (by simp [Act.eval]) (hd.out _) ?_
    rintro e w1 ⟨rfl, hb⟩
    exact ⟨rfl, rfl, (G0.alloc (.cells zEx 26)).run.fr.trans (.of_below hb)⟩
/-- What stands in parentheses. -/
theorem p_inner_bad {c : Par} {w : World} {k : Nat} (R : Rd c w k) (t : Tk) :
    Calls Tryd.prog 60 #[c.ptr, tkV t, .int .i64 64] w fun e w' => e = .panicked (flt t.pos 3) ∧ Fr c w w' := by
  obtain ⟨tk, tx, tw, tp⟩ := t
  have hd := Lib.hid (fun W => p_deeper_bad ⟨tk, tx, tw, tp⟩ W)
  have O4 := (Own.new w 49 #[.int .u8 tk, .string tx, .int .i64 tw, .int .i64 tp]).alloc (.cells zEx 26)
  have A0 := Lib.hid (((At.start R).alloc (.cells #[.int .u8 tk, .string tx, .int .i64 tw, .int .i64 tp] 49)).alloc (.cells zEx 26))
  clear R
  unfold tkV Par.ptr zEx at *
  go_enter Tryd.func60, Tryd.ntmps60
  go_wp2_with (first | (refine ld rowTok rfl rfl rfl O4 rfl ?_) | (go_at_call 90; refine (hd.out _).mono ?_; rintro e w1 ⟨rfl, hb⟩; have HB := Lib.hid hb; clear hb))
  exact ⟨rfl, rfl, A0.out.fr.trans (.of_below HB.out)⟩
set_option maxRecDepth 100000 in
set_option maxHeartbeats 4000000 in
theorem p_inner {n : Nat} (H : BinC n) {c : Par} {w : World} {k : Nat} (R : Rd c w k) (t : Tk) (d : Int) (h0 : 0 ≤ d) (h1 : d < 64) (hn : 3 * (c.at k).length + 2 ≤ n) :
    Calls Tryd.prog 60 #[c.ptr, tkV t, .int .i64 d] w (RdPost c w ((binE fnd c.L n 1 (d + 1) (c.at k)).then fun e r => (need c.L [41] r).then fun _ r => .ok e r) (exR w.heap.size)) := by
  obtain ⟨Y, hY⟩ : ∃ Y, Y = binE fnd c.L n 1 (d + 1) (c.at k) := ⟨_, rfl⟩
  have HC : Hid (∀ W, Rd c W k → Calls Tryd.prog 37 #[c.ptr, .int .i64 1, .int .i64 (d + 1)] W (RdPost c W Y (exR W.heap.size))) := fun W RW => by rw [hY]; exact H c W k 1 (d + 1) RW (by omega) (by omega) (by omega) (by omega) hn
  rw [← hY]
  obtain ⟨tk, tx, tw, tp⟩ := t
  have hd := Lib.hid (fun W => p_deeper_ok ⟨tk, tx, tw, tp⟩ d h0 h1 W)
  have O4 := (Own.new w 49 #[.int .u8 tk, .string tx, .int .i64 tw, .int .i64 tp]).alloc (.cells zEx 26)
  have O6 := Own.new (w.alloc (.cells #[.int .u8 tk, .string tx, .int .i64 tw, .int .i64 tp] 49)) 26 zEx
  rw [World.size_alloc] at O6
  have O66 := Lib.hid O6
  have A0 := Lib.hid (((At.start R).alloc (.cells #[.int .u8 tk, .string tx, .int .i64 tw, .int .i64 tp] 49)).alloc (.cells zEx 26))
  have HR := Lib.hid R
  have hX := Lib.hid R.lt
  clear hY H R hn O6
  unfold tkV Par.ptr zEx at *
  go_enter Tryd.func60, Tryd.ntmps60
  go_wp2_with (first | (refine ld rowTok rfl rfl rfl O4 rfl ?_) | (go_at_call 90; refine (hd.out _).mono ?_; rintro e w1 ⟨rfl, hb⟩; have A1 := Lib.hid (A0.out.below hb); have O1 := Lib.hid (O66.out.below hb); clear hb))
  go_at_call 37
  refine (HC.out _ (A1.out.rd HR.out)).mono ?_
  rintro e w2 ⟨hf2, hm⟩
  rcases Y with ⟨e0, r0⟩ | ⟨p, q⟩
  rotate_left
  · obtain rfl := hm
    go_wp2_with fail
    exact ⟨rfl, A1.out.fr.trans hf2, rfl⟩
  obtain ⟨v, k2, rfl, ⟨a4, cap4, rfl, hV⟩, hR2, rfl⟩ := hm
  have HZ := Lib.hid (And.intro O1.out.lt (Keep.size hf2))
  have A2 := Lib.hid ((A1.out.call hf2 hR2).alloc (.cells #[.int .u8 e0.kind, .int .u8 e0.op, .int .i64 e0.wd, .string e0.name, .slice a4 e0.kids.length cap4, .int .i64 e0.pos] 26))
  have O2 := Lib.hid ((O1.out.fr hf2 (by have := hX.out; omega)).alloc (.cells #[.int .u8 e0.kind, .int .u8 e0.op, .int .i64 e0.wd, .string e0.name, .slice a4 e0.kids.length cap4, .int .i64 e0.pos] 26))
  have N2 := Own.new w2 26 #[.int .u8 e0.kind, .int .u8 e0.op, .int .i64 e0.wd, .string e0.name, .slice a4 e0.kids.length cap4, .int .i64 e0.pos]
  have V2 := Lib.hid (exsAt_stays (stays_alloc _ w2 (.cells #[.int .u8 e0.kind, .int .u8 e0.op, .int .i64 e0.wd, .string e0.name, .slice a4 e0.kids.length cap4, .int .i64 e0.pos] 26)) (fun b hb => hb) (exsAt_in hV))
  clear hf2 hR2 hV O4
  go_wp2_with fail
  obtain ⟨W, hW⟩ : ∃ W, W = w2.alloc (.cells #[.int .u8 e0.kind, .int .u8 e0.op, .int .i64 e0.wd, .string e0.name, .slice a4 e0.kids.length cap4, .int .i64 e0.pos] 26) := ⟨_, rfl⟩
  rw [← hW] at A2 O2 N2 V2 ⊢
  clear hW
  by_cases hq : isT [41] (c.at k2) = true
  · go_at_call 88
    refine (p_take_ok (A2.out.rd HR.out) ⟨#[41]⟩ (by decide) hq).mono ?_
    rintro e w3 ⟨rfl, hf3, hR3⟩
    have hXX := hX.out
    have hZ := HZ.out
    have A3 := Lib.hid (A2.out.call hf3 hR3)
    have N3 := N2.fr hf3 (by omega)
    have O3 := O2.out.fr hf3 (by omega)
    have V3 := Lib.hid (exsAt_stays (R := fun b => w1.heap.size ≤ b ∧ b < w2.heap.size) (stays_fr hf3 (fun b hb => by omega)) (fun b hb => hb) V2.out)
    clear hf3 hR3 hXX hZ N2 O2
    go_wp2_with (first | (refine ld rowEx rfl rfl rfl N3 rfl ?_) | (refine st rowEx rfl rfl O3 rfl rfl (by rfl) (by rfl) (by kernel_rfl) ?_))
    have hXX := hX.out
    have hZ := HZ.out
    have A4 := A3.out.setRow (g := w.heap.size + 1) (by omega) (by omega) #[.int .u8 e0.kind, .int .u8 e0.op, .int .i64 e0.wd, .string e0.name, .slice a4 e0.kids.length cap4, .int .i64 e0.pos]
    have V4 := exsAt_stays (R := fun b => w1.heap.size ≤ b ∧ b < w2.heap.size) (stays_row w3 (g := w.heap.size + 1) #[.int .u8 e0.kind, .int .u8 e0.op, .int .i64 e0.wd, .string e0.name, .slice a4 e0.kids.length cap4, .int .i64 e0.pos] (fun b hb => by omega)) (fun b hb => hb) V3.out
    have e1 : need c.L [41] (c.at k2) = .ok () (c.at (k2 + 1)) := by unfold need; rw [if_pos hq, Par.at_tail]
    refine p_ret rowEx rfl (O3.row #[.int .u8 e0.kind, .int .u8 e0.op, .int .i64 e0.wd, .string e0.name, .slice a4 e0.kids.length cap4, .int .i64 e0.pos]) rfl rfl rfl ?_
    simp only [PR.then_ok, e1]
    exact ⟨A4.fr, _, k2 + 1, rfl, ⟨a4, cap4, rfl, exsAt_mono V4 (fun b hb => by omega)⟩, A4.rd HR.out, rfl⟩
  · have hq' : isT [41] (c.at k2) = false := by simpa using hq
    have e1 : need c.L [41] (c.at k2) = .bad (hdP c.L (c.at k2)) 2 := by unfold need; rw [if_neg hq]
    go_at_call 88
    refine (p_take_bad (A2.out.rd HR.out) ⟨#[41]⟩ (by decide) hq').mono ?_
    rintro e w3 ⟨rfl, hf3⟩
    have A3 := Lib.hid (A2.out.fr.trans hf3)
    clear hf3
    go_wp2_with fail
    refine ⟨rfl, ?_⟩
    simp only [PR.then_ok, e1, PR.then_bad]
    exact ⟨A3.out, rfl⟩
end Go.Proofs.YtjpmdafaaonpoaaDoor

namespace Go.Proofs.YtjpmdafaaonpoaaDoor
open Go.RowKit
set_option linter.unusedVariables false
theorem nx_lt {c : Par} {k : Nat} (h : (c.nx k).kind ≠ 0 ∨ (c.nx k).tx ≠ []) : k < c.toks.length := by
  apply Nat.lt_of_not_le
  intro hn
  have e : c.nx k = ⟨0, ⟨#[]⟩, 0, c.L⟩ := by unfold Par.nx; rw [Par.at_end hn]
  rw [e] at h
  rcases h with h | h <;> exact h rfl
theorem at_nx {c : Par} {k : Nat} (h : k < c.toks.length) : c.at k = c.nx k :: c.at (k + 1) := by
  have := Par.at_lt h
  unfold Par.nx
  rw [this]
theorem zeroFn (w : World) : (zeroValue 115).run Tryd.prog w = .ok .nilFunc w := by kernel_rfl
theorem opers_keys (c : Par) : ∀ e ∈ c.operE, ∃ t, e.key = .string t := by
  intro e he
  simp only [Par.operE, List.mem_cons, List.not_mem_nil, or_false] at he
  rcases he with rfl | rfl | rfl <;> exact ⟨_, rfl⟩
theorem run_opers {c : Par} {W : World} (S : RdS c W) (s : ByteArray) : (Instr.lookup 97 (.map (some c.O)) (.string s) false).run Tryd.prog W = .ok (lookE s.data.toList c.operE) W :=
  run_look Tryd.underlying97 Tryd.underlying9 (zeroFn W) S.om (opers_keys c) s
theorem RdS.drewN {c : Par} {W : World} (S : RdS c W) (n : Nat) : RdS c (W.drewN n) := S.keep (Keep.drewN (Fr.refl c W) n)
theorem fn_eql : ∀ (f : Fn) (u v : Array Value) (w : World), (binOp .eql 115 (.func f u v) .nilFunc).run Tryd.prog w = .ok (.bool false) w := fun f u v w => by kernel_rfl
theorem nil_eql : ∀ (w : World), (binOp .eql 115 .nilFunc .nilFunc).run Tryd.prog w = .ok (.bool true) w := fun w => by kernel_rfl
set_option maxRecDepth 100000 in
set_option maxHeartbeats 4000000 in
theorem o_number {c : Par} {w : World} {k : Nat} (R : Rd c w k) (d : Int) (hyp : (c.nx k).kind = 3) :
    Calls Tryd.prog 62 #[c.ptr, .int .i64 d] w fun e w' => e = .returned (.agg #[.int .u8 1, .int .u8 0, .int .i64 (c.nx k).wd, .string ⟨#[]⟩, .slice none 0 0, .int .i64 (c.nx k).pos]) ∧ Fr c w w' ∧ Rd c w' (k + 1) := by
  have hlt := Lib.hid (nx_lt (.inl (by rw [hyp]; decide)))
  have hk6 : k ≤ 65536 := by have := R.s.small.1; have := R.le; omega
  have HN : Hid (∀ W, Rd c W k → Calls Tryd.prog 44 #[c.ptr] W fun e w' => e = .returned (tkV (c.nx k)) ∧ Below W.heap.size W w') := fun W h => p_next h
  obtain ⟨t, ht⟩ : ∃ t, t = c.nx k := ⟨_, rfl⟩
  have HT := Lib.hid ht
  rw [← ht] at HN hyp
  clear ht
  obtain ⟨tk, tx, tw, tp⟩ := t
  have HR := Lib.hid R
  have hX := Lib.hid R.lt
  have A0 := Lib.hid ((At.start R).alloc (.cells zEx 26))
  have O0 := Own.new w 26 zEx
  have hlook : Hid (∀ W, RdS c W → (Instr.lookup 97 (.map (some c.O)) (.string tx) false).run Tryd.prog W = .ok (lookE tx.data.toList c.operE) W) := fun W S => run_opers S _
  clear R
  rw [← HT.out]
  simp only at hyp ⊢
  subst hyp
  obtain ⟨V, hV⟩ : ∃ V, V = lookE tx.data.toList c.operE := ⟨_, rfl⟩
  rw [← hV] at hlook
  clear hV HT
  have HNUM := Lib.hid (fun w => p_number ⟨3, tx, tw, tp⟩ d w)
  unfold tkV Par.ptr zEx at *
  have F1 := fn_eql
  go_enter Tryd.func62, Tryd.ntmps62
  go_wp2_with fail
  go_at_call 44
  refine (HN.out _ (A0.out.rd HR.out)).mono ?_
  rintro e w1 ⟨rfl, hb⟩
  have A1 := Lib.hid ((A0.out.below hb).alloc (.cells #[.int .u8 3, .string tx, .int .i64 tw, .int .i64 tp] 49))
  have O1 := Lib.hid ((O0.below hb).alloc (.cells #[.int .u8 3, .string tx, .int .i64 tw, .int .i64 tp] 49))
  have T1 := Lib.hid (Own.new w1 49 #[.int .u8 3, .string tx, .int .i64 tw, .int .i64 tp])
  have hz1 := Lib.hid (O0.below hb).lt
  clear hb O0
  go_upto_region 2 with (fail)
  obtain ⟨W, hW⟩ : ∃ W, W = w1.alloc (.cells #[.int .u8 3, .string tx, .int .i64 tw, .int .i64 tp] 49) := ⟨_, rfl⟩
  rw [← hW] at A1 O1 T1 ⊢
  clear hW
  obtain ⟨⟨_, _, x2, _, _, x5⟩, xf⟩ := A1.out.cells
  have t1 : W.cell? ⟨w1.heap.size, 1, none⟩ = some (.string tx) := by rw [cell_of_row W w1.heap.size 1 _ _ _ T1.out]; rfl
  have t0 : W.cell? ⟨w1.heap.size, 0, none⟩ = some (.int .u8 3) := by rw [cell_of_row W w1.heap.size 0 _ _ _ T1.out]; rfl
  have hlk := fun n => hlook.out (W.drewN n) ((A1.out.rd HR.out).s.drewN n)
  go_quiet (fail)
  obtain ⟨W2, hW2⟩ : ∃ W2, W2 = W.drewN nq := ⟨_, rfl⟩
  have A2 := A1.out.drewN nq
  have O2 := O1.out.drewN nq
  have T2 := T1.out.drewN nq
  rw [← hW2] at A2 O2 T2 ⊢
  have A2 := Lib.hid A2
  have O2 := Lib.hid O2
  have T2 := Lib.hid T2
  clear hW2 x2 x5 xf t1 t0 hlk A1 O1 T1
  obtain ⟨⟨_, _, x2, _⟩, xf⟩ := A2.out.cells
  have t0 : W2.cell? ⟨w1.heap.size, 0, none⟩ = some (.int .u8 3) := by rw [cell_of_row W2 w1.heap.size 0 _ _ _ T2.out]; rfl
  have A3 := Lib.hid (A2.out.step hlt.out)
  have hn1 : c.X ≠ w1.heap.size := by have := hX.out; have := hz1.out; omega
  have hn2 : c.X ≠ w.heap.size := by have := hX.out; omega
  have T3 := T2.out.setX 2 (.int .i64 ((k : Int) + 1)) hn1
  have O3 := Lib.hid (O2.out.setX 2 (.int .i64 ((k : Int) + 1)) hn2)
  have hn1 := Lib.hid hn1
  have hn2 := Lib.hid hn2
  go_wp2_with (first | (refine ld rowTok rfl rfl rfl T3 rfl ?_) | (go_at_call 91; refine (HNUM.out _).mono ?_; rintro e w3 ⟨rfl, hb⟩; have A4 := Lib.hid (A3.out.below hb); have O4 := O3.out.below hb; clear hb) | (refine st rowEx rfl rfl O4 rfl rfl (by rfl) (by rfl) (by kernel_rfl) ?_))
  have A5 := A4.out.setRow (Nat.le_refl _) hn2.out #[.int .u8 1, .int .u8 0, .int .i64 tw, .string ⟨#[]⟩, .slice none 0 0, .int .i64 tp]
  exact p_ret rowEx rfl (O4.row #[.int .u8 1, .int .u8 0, .int .i64 tw, .string ⟨#[]⟩, .slice none 0 0, .int .i64 tp]) rfl rfl rfl ⟨rfl, A5.fr, A5.rd HR.out⟩
set_option maxRecDepth 100000 in
set_option maxHeartbeats 4000000 in
theorem o_name {c : Par} {w : World} {k : Nat} (R : Rd c w k) (d : Int) (hyp : (c.nx k).kind = 1) :
    Calls Tryd.prog 62 #[c.ptr, .int .i64 d] w fun e w' => e = .returned (.agg #[.int .u8 2, .int .u8 0, .int .i64 0, .string (c.nx k).text, .slice none 0 0, .int .i64 (c.nx k).pos]) ∧ Fr c w w' ∧ Rd c w' (k + 1) := by
  have hlt := Lib.hid (nx_lt (.inl (by rw [hyp]; decide)))
  have hk6 : k ≤ 65536 := by have := R.s.small.1; have := R.le; omega
  have HN : Hid (∀ W, Rd c W k → Calls Tryd.prog 44 #[c.ptr] W fun e w' => e = .returned (tkV (c.nx k)) ∧ Below W.heap.size W w') := fun W h => p_next h
  obtain ⟨t, ht⟩ : ∃ t, t = c.nx k := ⟨_, rfl⟩
  have HT := Lib.hid ht
  rw [← ht] at HN hyp
  clear ht
  obtain ⟨tk, tx, tw, tp⟩ := t
  have HR := Lib.hid R
  have hX := Lib.hid R.lt
  have A0 := Lib.hid ((At.start R).alloc (.cells zEx 26))
  have O0 := Own.new w 26 zEx
  have hlook : Hid (∀ W, RdS c W → (Instr.lookup 97 (.map (some c.O)) (.string tx) false).run Tryd.prog W = .ok (lookE tx.data.toList c.operE) W) := fun W S => run_opers S _
  clear R
  rw [← HT.out]
  simp only at hyp ⊢
  subst hyp
  obtain ⟨V, hV⟩ : ∃ V, V = lookE tx.data.toList c.operE := ⟨_, rfl⟩
  rw [← hV] at hlook
  clear hV HT
  have HNUM := Lib.hid (fun w => p_variable ⟨1, tx, tw, tp⟩ d w)
  unfold tkV Par.ptr zEx at *
  have F1 := fn_eql
  go_enter Tryd.func62, Tryd.ntmps62
  go_wp2_with fail
  go_at_call 44
  refine (HN.out _ (A0.out.rd HR.out)).mono ?_
  rintro e w1 ⟨rfl, hb⟩
  have A1 := Lib.hid ((A0.out.below hb).alloc (.cells #[.int .u8 1, .string tx, .int .i64 tw, .int .i64 tp] 49))
  have O1 := Lib.hid ((O0.below hb).alloc (.cells #[.int .u8 1, .string tx, .int .i64 tw, .int .i64 tp] 49))
  have T1 := Lib.hid (Own.new w1 49 #[.int .u8 1, .string tx, .int .i64 tw, .int .i64 tp])
  have hz1 := Lib.hid (O0.below hb).lt
  clear hb O0
  go_upto_region 2 with (fail)
  obtain ⟨W, hW⟩ : ∃ W, W = w1.alloc (.cells #[.int .u8 1, .string tx, .int .i64 tw, .int .i64 tp] 49) := ⟨_, rfl⟩
  rw [← hW] at A1 O1 T1 ⊢
  clear hW
  obtain ⟨⟨_, _, x2, _, _, x5⟩, xf⟩ := A1.out.cells
  have t1 : W.cell? ⟨w1.heap.size, 1, none⟩ = some (.string tx) := by rw [cell_of_row W w1.heap.size 1 _ _ _ T1.out]; rfl
  have t0 : W.cell? ⟨w1.heap.size, 0, none⟩ = some (.int .u8 1) := by rw [cell_of_row W w1.heap.size 0 _ _ _ T1.out]; rfl
  have hlk := fun n => hlook.out (W.drewN n) ((A1.out.rd HR.out).s.drewN n)
  go_quiet (fail)
  obtain ⟨W2, hW2⟩ : ∃ W2, W2 = W.drewN nq := ⟨_, rfl⟩
  have A2 := A1.out.drewN nq
  have O2 := O1.out.drewN nq
  have T2 := T1.out.drewN nq
  rw [← hW2] at A2 O2 T2 ⊢
  have A2 := Lib.hid A2
  have O2 := Lib.hid O2
  have T2 := Lib.hid T2
  clear hW2 x2 x5 xf t1 t0 hlk A1 O1 T1
  obtain ⟨⟨_, _, x2, _⟩, xf⟩ := A2.out.cells
  have t0 : W2.cell? ⟨w1.heap.size, 0, none⟩ = some (.int .u8 1) := by rw [cell_of_row W2 w1.heap.size 0 _ _ _ T2.out]; rfl
  have A3 := Lib.hid (A2.out.step hlt.out)
  have hn1 : c.X ≠ w1.heap.size := by have := hX.out; have := hz1.out; omega
  have hn2 : c.X ≠ w.heap.size := by have := hX.out; omega
  have T3 := T2.out.setX 2 (.int .i64 ((k : Int) + 1)) hn1
  have O3 := Lib.hid (O2.out.setX 2 (.int .i64 ((k : Int) + 1)) hn2)
  have hn1 := Lib.hid hn1
  have hn2 := Lib.hid hn2
  go_wp2_with (first | (refine ld rowTok rfl rfl rfl T3 rfl ?_) | (go_at_call 92; refine (HNUM.out _).mono ?_; rintro e w3 ⟨rfl, hb⟩; have A4 := Lib.hid (A3.out.below hb); have O4 := O3.out.below hb; clear hb) | (refine st rowEx rfl rfl O4 rfl rfl (by rfl) (by rfl) (by kernel_rfl) ?_))
  have A5 := A4.out.setRow (Nat.le_refl _) hn2.out #[.int .u8 2, .int .u8 0, .int .i64 0, .string tx, .slice none 0 0, .int .i64 tp]
  exact p_ret rowEx rfl (O4.row #[.int .u8 2, .int .u8 0, .int .i64 0, .string tx, .slice none 0 0, .int .i64 tp]) rfl rfl rfl ⟨rfl, A5.fr, A5.rd HR.out⟩
set_option maxRecDepth 100000 in
set_option maxHeartbeats 4000000 in
theorem o_minus {c : Par} {w : World} {k : Nat} (R : Rd c w k) (d : Int) (Y : PR Ex) (hyp : ¬ (c.nx k).kind = 3 ∧ ¬ (c.nx k).kind = 1 ∧ (c.nx k).tx = [45])
    (HC : ∀ W, Rd c W (k + 1) → Calls Tryd.prog 89 #[tkV (c.nx k), .int .i64 d, .pointer (some ⟨c.bm, 0, none⟩), .pointer (some ⟨c.bm + 1, 0, none⟩)] W (RdPost c W Y (exR W.heap.size))) :
    Calls Tryd.prog 62 #[c.ptr, .int .i64 d] w (RdPost c w Y (exR w.heap.size)) := by
  have hlt := Lib.hid (nx_lt (c := c) (k := k) (.inr (by rw [hyp.2.2]; decide)))
  have hk6 : k ≤ 65536 := by have := R.s.small.1; have := R.le; omega
  have HN : Hid (∀ W, Rd c W k → Calls Tryd.prog 44 #[c.ptr] W fun e w' => e = .returned (tkV (c.nx k)) ∧ Below W.heap.size W w') := fun W h => p_next h
  obtain ⟨t, ht⟩ : ∃ t, t = c.nx k := ⟨_, rfl⟩
  have HT := Lib.hid ht
  rw [← ht] at HN hyp
  clear ht
  obtain ⟨tk, tx, tw, tp⟩ := t
  have HR := Lib.hid R
  have hX := Lib.hid R.lt
  have A0 := Lib.hid ((At.start R).alloc (.cells zEx 26))
  have O0 := Own.new w 26 zEx
  have hlook : Hid (∀ W, RdS c W → (Instr.lookup 97 (.map (some c.O)) (.string tx) false).run Tryd.prog W = .ok (.func (.func 89) #[] #[.pointer (some ⟨c.bm, 0, none⟩), .pointer (some ⟨c.bm + 1, 0, none⟩)]) W) := fun W S => by
    rw [run_opers S]; have e : tx.data.toList = [45] := hyp.2.2; rw [e]; rfl
  clear R
  have HC := Lib.hid HC
  rw [← HT.out] at HC
  have q3 : (tk == 3) = false := by simpa using hyp.1
  have q1 : (tk == 1) = false := by simpa using hyp.2.1
  clear hyp HT
  unfold tkV Par.ptr zEx at *
  have F1 := fn_eql
  go_enter Tryd.func62, Tryd.ntmps62
  go_wp2_with fail
  go_at_call 44
  refine (HN.out _ (A0.out.rd HR.out)).mono ?_
  rintro e w1 ⟨rfl, hb⟩
  have A1 := Lib.hid ((A0.out.below hb).alloc (.cells #[.int .u8 tk, .string tx, .int .i64 tw, .int .i64 tp] 49))
  have O1 := Lib.hid ((O0.below hb).alloc (.cells #[.int .u8 tk, .string tx, .int .i64 tw, .int .i64 tp] 49))
  have T1 := Lib.hid (Own.new w1 49 #[.int .u8 tk, .string tx, .int .i64 tw, .int .i64 tp])
  have hz1 := Lib.hid (O0.below hb).lt
  clear hb O0
  go_upto_region 2 with (fail)
  obtain ⟨W, hW⟩ : ∃ W, W = w1.alloc (.cells #[.int .u8 tk, .string tx, .int .i64 tw, .int .i64 tp] 49) := ⟨_, rfl⟩
  rw [← hW] at A1 O1 T1 ⊢
  clear hW
  obtain ⟨⟨_, _, x2, _, _, x5⟩, xf⟩ := A1.out.cells
  have t1 : W.cell? ⟨w1.heap.size, 1, none⟩ = some (.string tx) := by rw [cell_of_row W w1.heap.size 1 _ _ _ T1.out]; rfl
  have t0 : W.cell? ⟨w1.heap.size, 0, none⟩ = some (.int .u8 tk) := by rw [cell_of_row W w1.heap.size 0 _ _ _ T1.out]; rfl
  have hlk := fun n => hlook.out (W.drewN n) ((A1.out.rd HR.out).s.drewN n)
  go_quiet (fail)
  obtain ⟨W2, hW2⟩ : ∃ W2, W2 = W.drewN nq := ⟨_, rfl⟩
  have A2 := A1.out.drewN nq
  have O2 := O1.out.drewN nq
  have T2 := T1.out.drewN nq
  rw [← hW2] at A2 O2 T2 ⊢
  have A2 := Lib.hid A2
  have O2 := Lib.hid O2
  have T2 := Lib.hid T2
  clear hW2 x2 x5 xf t1 t0 hlk A1 O1 T1
  obtain ⟨⟨_, _, x2, _⟩, xf⟩ := A2.out.cells
  have t0 : W2.cell? ⟨w1.heap.size, 0, none⟩ = some (.int .u8 tk) := by rw [cell_of_row W2 w1.heap.size 0 _ _ _ T2.out]; rfl
  have A3 := Lib.hid (A2.out.step hlt.out)
  have hn1 : c.X ≠ w1.heap.size := by have := hX.out; have := hz1.out; omega
  have hn2 : c.X ≠ w.heap.size := by have := hX.out; omega
  have T3 := T2.out.setX 2 (.int .i64 ((k : Int) + 1)) hn1
  have O3 := Lib.hid (O2.out.setX 2 (.int .i64 ((k : Int) + 1)) hn2)
  have hn1 := Lib.hid hn1
  have hn2 := Lib.hid hn2
  go_wp2_with (first | (refine ld rowTok rfl rfl rfl T3 rfl ?_))
  go_at_call 89
  refine (HC.out _ (A3.out.rd HR.out)).mono ?_
  rintro e w3 ⟨hf3, hm⟩
  rcases Y with ⟨e0, r0⟩ | ⟨p, q⟩
  rotate_left
  · obtain rfl := hm
    have A4 := Lib.hid (A3.out.fr.trans hf3)
    clear hf3
    go_wp2_with fail
    exact ⟨rfl, A4.out, rfl⟩
  obtain ⟨v, k2, rfl, ⟨a4, cap4, rfl, hV⟩, hR2, rfl⟩ := hm
  have A4 := Lib.hid (A3.out.call hf3 hR2)
  have O4 := O3.out.fr hf3 hn2.out
  have HV := Lib.hid hV
  have hl := Lib.hid O3.out.lt
  clear hf3 hR2 hV T3 xf x2 t0
  go_wp2_with (first | (refine st rowEx rfl rfl O4 rfl rfl (by rfl) (by rfl) (by kernel_rfl) ?_))
  have hll := hl.out
  have A5 := A4.out.setRow (Nat.le_refl _) hn2.out #[.int .u8 e0.kind, .int .u8 e0.op, .int .i64 e0.wd, .string e0.name, .slice a4 e0.kids.length cap4, .int .i64 e0.pos]
  have V5 := exsAt_stays (stays_row w3 (g := w.heap.size) #[.int .u8 e0.kind, .int .u8 e0.op, .int .i64 e0.wd, .string e0.name, .slice a4 e0.kids.length cap4, .int .i64 e0.pos] (fun b hb => by omega)) (fun b hb => hb) HV.out
  refine p_ret rowEx rfl (O4.row #[.int .u8 e0.kind, .int .u8 e0.op, .int .i64 e0.wd, .string e0.name, .slice a4 e0.kids.length cap4, .int .i64 e0.pos]) rfl rfl rfl ?_
  exact ⟨A5.fr, _, k2, rfl, ⟨a4, cap4, rfl, exsAt_mono V5 (fun b hb => by omega)⟩, A5.rd HR.out, rfl⟩
set_option maxRecDepth 100000 in
set_option maxHeartbeats 4000000 in
theorem o_not {c : Par} {w : World} {k : Nat} (R : Rd c w k) (d : Int) (Y : PR Ex) (hyp : ¬ (c.nx k).kind = 3 ∧ ¬ (c.nx k).kind = 1 ∧ (c.nx k).tx = [33])
    (HC : ∀ W, Rd c W (k + 1) → Calls Tryd.prog 89 #[tkV (c.nx k), .int .i64 d, .pointer (some ⟨c.bn, 0, none⟩), .pointer (some ⟨c.bn + 1, 0, none⟩)] W (RdPost c W Y (exR W.heap.size))) :
    Calls Tryd.prog 62 #[c.ptr, .int .i64 d] w (RdPost c w Y (exR w.heap.size)) := by
  have hlt := Lib.hid (nx_lt (c := c) (k := k) (.inr (by rw [hyp.2.2]; decide)))
  have hk6 : k ≤ 65536 := by have := R.s.small.1; have := R.le; omega
  have HN : Hid (∀ W, Rd c W k → Calls Tryd.prog 44 #[c.ptr] W fun e w' => e = .returned (tkV (c.nx k)) ∧ Below W.heap.size W w') := fun W h => p_next h
  obtain ⟨t, ht⟩ : ∃ t, t = c.nx k := ⟨_, rfl⟩
  have HT := Lib.hid ht
  rw [← ht] at HN hyp
  clear ht
  obtain ⟨tk, tx, tw, tp⟩ := t
  have HR := Lib.hid R
  have hX := Lib.hid R.lt
  have A0 := Lib.hid ((At.start R).alloc (.cells zEx 26))
  have O0 := Own.new w 26 zEx
  have hlook : Hid (∀ W, RdS c W → (Instr.lookup 97 (.map (some c.O)) (.string tx) false).run Tryd.prog W = .ok (.func (.func 89) #[] #[.pointer (some ⟨c.bn, 0, none⟩), .pointer (some ⟨c.bn + 1, 0, none⟩)]) W) := fun W S => by
    rw [run_opers S]; have e : tx.data.toList = [33] := hyp.2.2; rw [e]; rfl
  clear R
  have HC := Lib.hid HC
  rw [← HT.out] at HC
  have q3 : (tk == 3) = false := by simpa using hyp.1
  have q1 : (tk == 1) = false := by simpa using hyp.2.1
  clear hyp HT
  unfold tkV Par.ptr zEx at *
  have F1 := fn_eql
  go_enter Tryd.func62, Tryd.ntmps62
  go_wp2_with fail
  go_at_call 44
  refine (HN.out _ (A0.out.rd HR.out)).mono ?_
  rintro e w1 ⟨rfl, hb⟩
  have A1 := Lib.hid ((A0.out.below hb).alloc (.cells #[.int .u8 tk, .string tx, .int .i64 tw, .int .i64 tp] 49))
  have O1 := Lib.hid ((O0.below hb).alloc (.cells #[.int .u8 tk, .string tx, .int .i64 tw, .int .i64 tp] 49))
  have T1 := Lib.hid (Own.new w1 49 #[.int .u8 tk, .string tx, .int .i64 tw, .int .i64 tp])
  have hz1 := Lib.hid (O0.below hb).lt
  clear hb O0
  go_upto_region 2 with (fail)
  obtain ⟨W, hW⟩ : ∃ W, W = w1.alloc (.cells #[.int .u8 tk, .string tx, .int .i64 tw, .int .i64 tp] 49) := ⟨_, rfl⟩
  rw [← hW] at A1 O1 T1 ⊢
  clear hW
  obtain ⟨⟨_, _, x2, _, _, x5⟩, xf⟩ := A1.out.cells
  have t1 : W.cell? ⟨w1.heap.size, 1, none⟩ = some (.string tx) := by rw [cell_of_row W w1.heap.size 1 _ _ _ T1.out]; rfl
  have t0 : W.cell? ⟨w1.heap.size, 0, none⟩ = some (.int .u8 tk) := by rw [cell_of_row W w1.heap.size 0 _ _ _ T1.out]; rfl
  have hlk := fun n => hlook.out (W.drewN n) ((A1.out.rd HR.out).s.drewN n)
  go_quiet (fail)
  obtain ⟨W2, hW2⟩ : ∃ W2, W2 = W.drewN nq := ⟨_, rfl⟩
  have A2 := A1.out.drewN nq
  have O2 := O1.out.drewN nq
  have T2 := T1.out.drewN nq
  rw [← hW2] at A2 O2 T2 ⊢
  have A2 := Lib.hid A2
  have O2 := Lib.hid O2
  have T2 := Lib.hid T2
  clear hW2 x2 x5 xf t1 t0 hlk A1 O1 T1
  obtain ⟨⟨_, _, x2, _⟩, xf⟩ := A2.out.cells
  have t0 : W2.cell? ⟨w1.heap.size, 0, none⟩ = some (.int .u8 tk) := by rw [cell_of_row W2 w1.heap.size 0 _ _ _ T2.out]; rfl
  have A3 := Lib.hid (A2.out.step hlt.out)
  have hn1 : c.X ≠ w1.heap.size := by have := hX.out; have := hz1.out; omega
  have hn2 : c.X ≠ w.heap.size := by have := hX.out; omega
  have T3 := T2.out.setX 2 (.int .i64 ((k : Int) + 1)) hn1
  have O3 := Lib.hid (O2.out.setX 2 (.int .i64 ((k : Int) + 1)) hn2)
  have hn1 := Lib.hid hn1
  have hn2 := Lib.hid hn2
  go_wp2_with (first | (refine ld rowTok rfl rfl rfl T3 rfl ?_))
  go_at_call 89
  refine (HC.out _ (A3.out.rd HR.out)).mono ?_
  rintro e w3 ⟨hf3, hm⟩
  rcases Y with ⟨e0, r0⟩ | ⟨p, q⟩
  rotate_left
  · obtain rfl := hm
    have A4 := Lib.hid (A3.out.fr.trans hf3)
    clear hf3
    go_wp2_with fail
    exact ⟨rfl, A4.out, rfl⟩
  obtain ⟨v, k2, rfl, ⟨a4, cap4, rfl, hV⟩, hR2, rfl⟩ := hm
  have A4 := Lib.hid (A3.out.call hf3 hR2)
  have O4 := O3.out.fr hf3 hn2.out
  have HV := Lib.hid hV
  have hl := Lib.hid O3.out.lt
  clear hf3 hR2 hV T3 xf x2 t0
  go_wp2_with (first | (refine st rowEx rfl rfl O4 rfl rfl (by rfl) (by rfl) (by kernel_rfl) ?_))
  have hll := hl.out
  have A5 := A4.out.setRow (Nat.le_refl _) hn2.out #[.int .u8 e0.kind, .int .u8 e0.op, .int .i64 e0.wd, .string e0.name, .slice a4 e0.kids.length cap4, .int .i64 e0.pos]
  have V5 := exsAt_stays (stays_row w3 (g := w.heap.size) #[.int .u8 e0.kind, .int .u8 e0.op, .int .i64 e0.wd, .string e0.name, .slice a4 e0.kids.length cap4, .int .i64 e0.pos] (fun b hb => by omega)) (fun b hb => hb) HV.out
  refine p_ret rowEx rfl (O4.row #[.int .u8 e0.kind, .int .u8 e0.op, .int .i64 e0.wd, .string e0.name, .slice a4 e0.kids.length cap4, .int .i64 e0.pos]) rfl rfl rfl ?_
  exact ⟨A5.fr, _, k2, rfl, ⟨a4, cap4, rfl, exsAt_mono V5 (fun b hb => by omega)⟩, A5.rd HR.out, rfl⟩
set_option maxRecDepth 100000 in
set_option maxHeartbeats 4000000 in
theorem o_paren {c : Par} {w : World} {k : Nat} (R : Rd c w k) (d : Int) (Y : PR Ex) (hyp : ¬ (c.nx k).kind = 3 ∧ ¬ (c.nx k).kind = 1 ∧ (c.nx k).tx = [40])
    (HC : ∀ W, Rd c W (k + 1) → Calls Tryd.prog 60 #[c.ptr, tkV (c.nx k), .int .i64 d] W (RdPost c W Y (exR W.heap.size))) :
    Calls Tryd.prog 62 #[c.ptr, .int .i64 d] w (RdPost c w Y (exR w.heap.size)) := by
  have hlt := Lib.hid (nx_lt (c := c) (k := k) (.inr (by rw [hyp.2.2]; decide)))
  have hk6 : k ≤ 65536 := by have := R.s.small.1; have := R.le; omega
  have HN : Hid (∀ W, Rd c W k → Calls Tryd.prog 44 #[c.ptr] W fun e w' => e = .returned (tkV (c.nx k)) ∧ Below W.heap.size W w') := fun W h => p_next h
  obtain ⟨t, ht⟩ : ∃ t, t = c.nx k := ⟨_, rfl⟩
  have HT := Lib.hid ht
  rw [← ht] at HN hyp
  clear ht
  obtain ⟨tk, tx, tw, tp⟩ := t
  have HR := Lib.hid R
  have hX := Lib.hid R.lt
  have A0 := Lib.hid ((At.start R).alloc (.cells zEx 26))
  have O0 := Own.new w 26 zEx
  have hlook : Hid (∀ W, RdS c W → (Instr.lookup 97 (.map (some c.O)) (.string tx) false).run Tryd.prog W = .ok (.func (.func 60) #[.pointer (some ⟨c.X, 0, none⟩)] #[]) W) := fun W S => by
    rw [run_opers S]; have e : tx.data.toList = [40] := hyp.2.2; rw [e]; rfl
  clear R
  have HC := Lib.hid HC
  rw [← HT.out] at HC
  have q3 : (tk == 3) = false := by simpa using hyp.1
  have q1 : (tk == 1) = false := by simpa using hyp.2.1
  clear hyp HT
  unfold tkV Par.ptr zEx at *
  have F1 := fn_eql
  go_enter Tryd.func62, Tryd.ntmps62
  go_wp2_with fail
  go_at_call 44
  refine (HN.out _ (A0.out.rd HR.out)).mono ?_
  rintro e w1 ⟨rfl, hb⟩
  have A1 := Lib.hid ((A0.out.below hb).alloc (.cells #[.int .u8 tk, .string tx, .int .i64 tw, .int .i64 tp] 49))
  have O1 := Lib.hid ((O0.below hb).alloc (.cells #[.int .u8 tk, .string tx, .int .i64 tw, .int .i64 tp] 49))
  have T1 := Lib.hid (Own.new w1 49 #[.int .u8 tk, .string tx, .int .i64 tw, .int .i64 tp])
  have hz1 := Lib.hid (O0.below hb).lt
  clear hb O0
  go_upto_region 2 with (fail)
  obtain ⟨W, hW⟩ : ∃ W, W = w1.alloc (.cells #[.int .u8 tk, .string tx, .int .i64 tw, .int .i64 tp] 49) := ⟨_, rfl⟩
  rw [← hW] at A1 O1 T1 ⊢
  clear hW
  obtain ⟨⟨_, _, x2, _, _, x5⟩, xf⟩ := A1.out.cells
  have t1 : W.cell? ⟨w1.heap.size, 1, none⟩ = some (.string tx) := by rw [cell_of_row W w1.heap.size 1 _ _ _ T1.out]; rfl
  have t0 : W.cell? ⟨w1.heap.size, 0, none⟩ = some (.int .u8 tk) := by rw [cell_of_row W w1.heap.size 0 _ _ _ T1.out]; rfl
  have hlk := fun n => hlook.out (W.drewN n) ((A1.out.rd HR.out).s.drewN n)
  go_quiet (fail)
  obtain ⟨W2, hW2⟩ : ∃ W2, W2 = W.drewN nq := ⟨_, rfl⟩
  have A2 := A1.out.drewN nq
  have O2 := O1.out.drewN nq
  have T2 := T1.out.drewN nq
  rw [← hW2] at A2 O2 T2 ⊢
  have A2 := Lib.hid A2
  have O2 := Lib.hid O2
  have T2 := Lib.hid T2
  clear hW2 x2 x5 xf t1 t0 hlk A1 O1 T1
  obtain ⟨⟨_, _, x2, _⟩, xf⟩ := A2.out.cells
  have t0 : W2.cell? ⟨w1.heap.size, 0, none⟩ = some (.int .u8 tk) := by rw [cell_of_row W2 w1.heap.size 0 _ _ _ T2.out]; rfl
  have A3 := Lib.hid (A2.out.step hlt.out)
  have hn1 : c.X ≠ w1.heap.size := by have := hX.out; have := hz1.out; omega
  have hn2 : c.X ≠ w.heap.size := by have := hX.out; omega
  have T3 := T2.out.setX 2 (.int .i64 ((k : Int) + 1)) hn1
  have O3 := Lib.hid (O2.out.setX 2 (.int .i64 ((k : Int) + 1)) hn2)
  have hn1 := Lib.hid hn1
  have hn2 := Lib.hid hn2
  go_wp2_with (first | (refine ld rowTok rfl rfl rfl T3 rfl ?_))
  go_at_call 60
  refine (HC.out _ (A3.out.rd HR.out)).mono ?_
  rintro e w3 ⟨hf3, hm⟩
  rcases Y with ⟨e0, r0⟩ | ⟨p, q⟩
  rotate_left
  · obtain rfl := hm
    have A4 := Lib.hid (A3.out.fr.trans hf3)
    clear hf3
    go_wp2_with fail
    exact ⟨rfl, A4.out, rfl⟩
  obtain ⟨v, k2, rfl, ⟨a4, cap4, rfl, hV⟩, hR2, rfl⟩ := hm
  have A4 := Lib.hid (A3.out.call hf3 hR2)
  have O4 := O3.out.fr hf3 hn2.out
  have HV := Lib.hid hV
  have hl := Lib.hid O3.out.lt
  clear hf3 hR2 hV T3 xf x2 t0
  go_wp2_with (first | (refine st rowEx rfl rfl O4 rfl rfl (by rfl) (by rfl) (by kernel_rfl) ?_))
  have hll := hl.out
  have A5 := A4.out.setRow (Nat.le_refl _) hn2.out #[.int .u8 e0.kind, .int .u8 e0.op, .int .i64 e0.wd, .string e0.name, .slice a4 e0.kids.length cap4, .int .i64 e0.pos]
  have V5 := exsAt_stays (stays_row w3 (g := w.heap.size) #[.int .u8 e0.kind, .int .u8 e0.op, .int .i64 e0.wd, .string e0.name, .slice a4 e0.kids.length cap4, .int .i64 e0.pos] (fun b hb => by omega)) (fun b hb => hb) HV.out
  refine p_ret rowEx rfl (O4.row #[.int .u8 e0.kind, .int .u8 e0.op, .int .i64 e0.wd, .string e0.name, .slice a4 e0.kids.length cap4, .int .i64 e0.pos]) rfl rfl rfl ?_
  exact ⟨A5.fr, _, k2, rfl, ⟨a4, cap4, rfl, exsAt_mono V5 (fun b hb => by omega)⟩, A5.rd HR.out, rfl⟩
set_option maxRecDepth 100000 in
set_option maxHeartbeats 4000000 in
theorem o_none {c : Par} {w : World} {k : Nat} (R : Rd c w k) (d : Int) (hyp : ¬ (c.nx k).kind = 3 ∧ ¬ (c.nx k).kind = 1 ∧ ¬ (c.nx k).tx = [45] ∧ ¬ (c.nx k).tx = [33] ∧ ¬ (c.nx k).tx = [40]) :
    Calls Tryd.prog 62 #[c.ptr, .int .i64 d] w fun e w' => e = .panicked (flt (hdP c.L (c.at k)) 2) ∧ Fr c w w' := by
  have hp := c.nx_pos k
  rw [← hp]
  clear hp
  have hk6 : k ≤ 65536 := by have := R.s.small.1; have := R.le; omega
  have HN : Hid (∀ W, Rd c W k → Calls Tryd.prog 44 #[c.ptr] W fun e w' => e = .returned (tkV (c.nx k)) ∧ Below W.heap.size W w') := fun W h => p_next h
  obtain ⟨t, ht⟩ : ∃ t, t = c.nx k := ⟨_, rfl⟩
  have HT := Lib.hid ht
  rw [← ht] at HN hyp
  clear ht
  obtain ⟨tk, tx, tw, tp⟩ := t
  have HR := Lib.hid R
  have hX := Lib.hid R.lt
  have A0 := Lib.hid ((At.start R).alloc (.cells zEx 26))
  have O0 := Own.new w 26 zEx
  have hlook : Hid (∀ W, RdS c W → (Instr.lookup 97 (.map (some c.O)) (.string tx) false).run Tryd.prog W = .ok (.nilFunc) W) := fun W S => by
    rw [run_opers S]
    have e : lookE tx.data.toList c.operE = .nilFunc := by
      obtain ⟨_, _, h1, h2, h3⟩ := hyp
      have h1' : ¬ tx.data.toList = [45] := h1
      have h2' : ¬ tx.data.toList = [33] := h2
      have h3' : ¬ tx.data.toList = [40] := h3
      simp only [lookE, Par.operE]
      rw [if_neg h1', if_neg h2', if_neg h3']
    rw [e]
  clear R
  rw [← HT.out]
  have q3 : (tk == 3) = false := by simpa using hyp.1
  have q1 : (tk == 1) = false := by simpa using hyp.2.1
  have HQ := Lib.hid (fun w => p_refuse ⟨tk, tx, tw, tp⟩ 2 w)
  have F2 := nil_eql
  clear hyp HT
  unfold tkV Par.ptr zEx at *
  have F1 := fn_eql
  go_enter Tryd.func62, Tryd.ntmps62
  go_wp2_with fail
  go_at_call 44
  refine (HN.out _ (A0.out.rd HR.out)).mono ?_
  rintro e w1 ⟨rfl, hb⟩
  have A1 := Lib.hid ((A0.out.below hb).alloc (.cells #[.int .u8 tk, .string tx, .int .i64 tw, .int .i64 tp] 49))
  have O1 := Lib.hid ((O0.below hb).alloc (.cells #[.int .u8 tk, .string tx, .int .i64 tw, .int .i64 tp] 49))
  have T1 := Lib.hid (Own.new w1 49 #[.int .u8 tk, .string tx, .int .i64 tw, .int .i64 tp])
  have hz1 := Lib.hid (O0.below hb).lt
  clear hb O0
  go_upto_region 2 with (fail)
  obtain ⟨W, hW⟩ : ∃ W, W = w1.alloc (.cells #[.int .u8 tk, .string tx, .int .i64 tw, .int .i64 tp] 49) := ⟨_, rfl⟩
  rw [← hW] at A1 O1 T1 ⊢
  clear hW
  obtain ⟨⟨_, _, x2, _, _, x5⟩, xf⟩ := A1.out.cells
  have t1 : W.cell? ⟨w1.heap.size, 1, none⟩ = some (.string tx) := by rw [cell_of_row W w1.heap.size 1 _ _ _ T1.out]; rfl
  have t0 : W.cell? ⟨w1.heap.size, 0, none⟩ = some (.int .u8 tk) := by rw [cell_of_row W w1.heap.size 0 _ _ _ T1.out]; rfl
  have hlk := fun n => hlook.out (W.drewN n) ((A1.out.rd HR.out).s.drewN n)
  go_quiet (fail)
  obtain ⟨W2, hW2⟩ : ∃ W2, W2 = W.drewN nq := ⟨_, rfl⟩
  have A2 := A1.out.drewN nq
  have O2 := O1.out.drewN nq
  have T2 := T1.out.drewN nq
  rw [← hW2] at A2 O2 T2 ⊢
  have A2 := Lib.hid A2
  have O2 := Lib.hid O2
  have T2 := Lib.hid T2
  clear hW2 x2 x5 xf t1 t0 hlk A1 O1 T1
  have t0 : W2.cell? ⟨w1.heap.size, 0, none⟩ = some (.int .u8 tk) := by rw [cell_of_row W2 w1.heap.size 0 _ _ _ T2.out]; rfl
  have T3 := T2.out
  go_wp2_with (first | (refine ld rowTok rfl rfl rfl T3 rfl ?_) | (go_at_call 61; refine (HQ.out _).mono ?_; rintro e w3 ⟨rfl, hb⟩; have HC := Lib.hid hb; clear hb))
  exact ⟨rfl, rfl, A2.out.fr.trans (.of_below HC.out)⟩
end Go.Proofs.YtjpmdafaaonpoaaDoor

namespace Go.Proofs.YtjpmdafaaonpoaaDoor
open Go.RowKit
set_option linter.unusedVariables false
theorem opnd_step {n : Nat} (H1 : OpndC n) (H2 : BinC n) : OpndC (n + 1) := by
  intro c w k d R h0 h1 hn
  by_cases hk : k < c.toks.length
  · have hat := at_nx hk
    have hl : (c.at k).length = (c.at (k + 1)).length + 1 := by rw [hat]; rfl
    rw [hat]
    simp only [opnd]
    by_cases k3 : (c.nx k).kind = 3
    · rw [if_pos k3]
      exact (o_number R d k3).mono fun e w' ⟨he, hf, hr⟩ => ⟨hf, _, k + 1, he, ⟨none, 0, rfl, .inl rfl⟩, hr, rfl⟩
    rw [if_neg k3]
    by_cases k1 : (c.nx k).kind = 1
    · rw [if_pos k1]
      exact (o_name R d k1).mono fun e w' ⟨he, hf, hr⟩ => ⟨hf, _, k + 1, he, ⟨none, 0, rfl, .inl rfl⟩, hr, rfl⟩
    rw [if_neg k1]
    by_cases q1 : (c.nx k).tx = [45]
    · rw [if_pos q1]
      by_cases hd : d = 64
      · subst hd
        rw [if_pos rfl]
        exact o_minus R 64 _ ⟨k3, k1, q1⟩ fun W RW => (p_unary_bad RW (c.nx k) c.bm 17 RW.s.b1 RW.s.b2).mono fun e w' ⟨he, hf⟩ => ⟨hf, he⟩
      · rw [if_neg hd]
        exact o_minus R d _ ⟨k3, k1, q1⟩ fun W RW => p_unary H1 RW (c.nx k) d 17 c.bm h0 (by omega) (by omega) RW.s.b1 RW.s.b2 RW.s.ne.2.2.2.1 RW.s.ne.2.2.2.2.1
    rw [if_neg q1]
    by_cases q2 : (c.nx k).tx = [33]
    · rw [if_pos q2]
      by_cases hd : d = 64
      · subst hd
        rw [if_pos rfl]
        exact o_not R 64 _ ⟨k3, k1, q2⟩ fun W RW => (p_unary_bad RW (c.nx k) c.bn 18 RW.s.b3 RW.s.b4).mono fun e w' ⟨he, hf⟩ => ⟨hf, he⟩
      · rw [if_neg hd]
        exact o_not R d _ ⟨k3, k1, q2⟩ fun W RW => p_unary H1 RW (c.nx k) d 18 c.bn h0 (by omega) (by omega) RW.s.b3 RW.s.b4 RW.s.ne.2.2.2.2.2.1 RW.s.ne.2.2.2.2.2.2
    rw [if_neg q2]
    by_cases q3 : (c.nx k).tx = [40]
    · rw [if_pos q3]
      by_cases hd : d = 64
      · subst hd
        rw [if_pos rfl]
        exact o_paren R 64 _ ⟨k3, k1, q3⟩ fun W RW => (p_inner_bad RW (c.nx k)).mono fun e w' ⟨he, hf⟩ => ⟨hf, he⟩
      · rw [if_neg hd]
        exact o_paren R d _ ⟨k3, k1, q3⟩ fun W RW => p_inner H2 RW (c.nx k) d h0 (by omega) (by omega)
    rw [if_neg q3]
    exact (o_none R d ⟨k3, k1, q1, q2, q3⟩).mono fun e w' ⟨he, hf⟩ => ⟨hf, by rw [he, hat]; rfl⟩
  · have hat := Par.at_end (c := c) (k := k) (by omega)
    have hnx : c.nx k = ⟨0, ⟨#[]⟩, 0, c.L⟩ := by unfold Par.nx; rw [hat]
    rw [hat]
    simp only [opnd]
    exact (o_none R d (by rw [hnx]; exact ⟨by show ¬ (0 : Int) = 3; decide, by show ¬ (0 : Int) = 1; decide, by show ¬ ([] : Bs) = [45]; decide, by show ¬ ([] : Bs) = [33]; decide, by show ¬ ([] : Bs) = [40]; decide⟩)).mono fun e w' ⟨he, hf⟩ => ⟨hf, by rw [he, hat]; rfl⟩
theorem fnd_bd (l : Bs) : 0 ≤ (fnd l).1 ∧ (fnd l).1 ≤ 16 ∧ ((fnd l).2 = true → 1 ≤ (fnd l).1) := by
  have key : ∀ n k, 1 ≤ k → k + n ≤ 17 → 0 ≤ (fndFrom l n k).1 ∧ (fndFrom l n k).1 ≤ 16 ∧ ((fndFrom l n k).2 = true → 1 ≤ (fndFrom l n k).1) := by
    intro n
    induction n with
    | zero => intro k _ _; exact ⟨Int.le_refl _, by show (0 : Int) ≤ 16; decide, fun h => by cases h⟩
    | succ n ih =>
      intro k h1 h2
      simp only [fndFrom]
      split
      · exact ⟨by simp only; omega, by simp only; omega, fun _ => by simp only; omega⟩
      · exact ih (k + 1) (by omega) (by omega)
  exact key 16 1 (by omega) (by omega)
theorem level_fnd (l : Bs) : levelOf (fnd l).1 = levelI (fnd l).1 := by
  have := fnd_bd l
  unfold levelOf levelI
  rw [if_neg (by omega)]
  rfl
theorem level_bd {o : Int} (h0 : 1 ≤ o) (h1 : o ≤ 16) : 1 ≤ levelI o ∧ levelI o ≤ 8 := by
  have : o = 1 ∨ o = 2 ∨ o = 3 ∨ o = 4 ∨ o = 5 ∨ o = 6 ∨ o = 7 ∨ o = 8 ∨ o = 9 ∨ o = 10 ∨ o = 11 ∨ o = 12 ∨ o = 13 ∨ o = 14 ∨ o = 15 ∨ o = 16 := by omega
  rcases this with rfl | rfl | rfl | rfl | rfl | rfl | rfl | rfl | rfl | rfl | rfl | rfl | rfl | rfl | rfl | rfl <;> decide
theorem fnd_nil : fnd [] = (0, false) := by decide
/-- The operator that comes next. -/
def Par.op (c : Par) (k : Nat) : Int × Bool := fnd (c.nx k).tx
/-- Does it bind so strongly? -/
def goesOn (c : Par) (k : Nat) (v : Int) : Bool := (c.op k).2 && decide (v ≤ levelI (c.op k).1)
theorem binL_stop {c : Par} {k n : Nat} {v d : Int} {e : Ex} (h : goesOn c k v = false) : binL fnd c.L (n + 1) v d e (c.at k) = .ok e (c.at k) := by
  by_cases hk : k < c.toks.length
  · rw [at_nx hk]
    simp only [binL]
    rw [if_neg]
    intro hh
    unfold goesOn Par.op at h
    rw [hh.1] at h
    simp at h
    omega
  · rw [Par.at_end (by omega)]; rfl
theorem binL_go {c : Par} {k n : Nat} {v d : Int} {e : Ex} (h : goesOn c k v = true) : k < c.toks.length ∧ binL fnd c.L (n + 1) v d e (c.at k) = (binE fnd c.L n (levelI (c.op k).1 + 1) d (c.at (k + 1))).then fun f r => binL fnd c.L n v d (biX (c.op k).1 (c.nx k).pos e f) r := by
  unfold goesOn at h
  simp only [Bool.and_eq_true, decide_eq_true_eq] at h
  have hk : k < c.toks.length := nx_lt (.inr (fun e0 => by
    have := h.1
    unfold Par.op at this
    rw [e0, fnd_nil] at this
    cases this))
  refine ⟨hk, ?_⟩
  rw [at_nx hk]
  simp only [binL]
  rw [if_pos]
  · rfl
  · exact h
theorem Tabs.fr {c : Par} {W : World} (S : RdS c W) : Tabs W := S.tabs
/-- What holds within binary: the reader, the left one, the result's block. -/
structure BinS (c : Par) (w : World) (b7 : Nat) (e1 : Ex) (a5 : Option Addr) (cap5 : Nat) (W : World) (j : Nat) : Prop where
  run : At c w W j
  left : Own W b7 26 #[.int .u8 e1.kind, .int .u8 e1.op, .int .i64 e1.wd, .string e1.name, .slice a5 e1.kids.length cap5, .int .i64 e1.pos]
  res : Own W w.heap.size 26 zEx
  tree : exsAt (fun b => w.heap.size < b ∧ b ≠ b7) W e1.kids a5
section
variable {c : Par} {w W W' : World} {b7 : Nat} {e1 : Ex} {a5 : Option Addr} {cap5 j k2 : Nat}
theorem BinS.below (h : BinS c w b7 e1 a5 cap5 W j) (hb : Below W.heap.size W W') : BinS c w b7 e1 a5 cap5 W' j :=
  ⟨h.run.below hb, h.left.below hb, h.res.below hb, exsAt_stays (stays_below hb) (fun b hb => hb) h.tree⟩
theorem BinS.alloc (h : BinS c w b7 e1 a5 cap5 W j) (o : Obj) : BinS c w b7 e1 a5 cap5 (W.alloc o) j := h.below ((Below.refl _ W).alloc (Nat.le_refl _) o)
theorem BinS.step (h : BinS c w b7 e1 a5 cap5 W j) (hj : j < c.toks.length) (hX : c.X < w.heap.size) (h7 : w.heap.size < b7) : BinS c w b7 e1 a5 cap5 (W.setCell ⟨c.X, 2, none⟩ (.int .i64 ((j : Int) + 1))) (j + 1) :=
  ⟨h.run.step hj, h.left.setX 2 _ (by omega), h.res.setX 2 _ (by omega), exsAt_stays (stays_setX W 2 _ (fun b hb => by omega)) (fun b hb => hb) h.tree⟩
theorem BinS.call (h : BinS c w b7 e1 a5 cap5 W j) (hf : Fr c W W') (hp : Rd c W' k2) (hX : c.X < w.heap.size) (h7 : w.heap.size < b7) : BinS c w b7 e1 a5 cap5 W' k2 :=
  ⟨h.run.call hf hp, h.left.fr hf (by omega), h.res.fr hf (by omega), exsAt_stays (stays_fr hf (fun b hb => by omega)) (fun b hb => hb) h.tree⟩
end
/-- What holds at the head of a round of binary. -/
def BinI (c : Par) (w : World) (b7 : Nat) (v d : Int) (Y : PR Ex) (m : Nat) (W : World) : Prop :=
  ∃ (j : Nat) (e1 : Ex) (a5 : Option Addr) (cap5 : Nat), BinS c w b7 e1 a5 cap5 W j ∧ binL fnd c.L m v d e1 (c.at j) = Y ∧ 3 * (c.at j).length + 1 ≤ m
set_option maxRecDepth 100000 in
set_option maxHeartbeats 8000000 in
theorem p_binary {n : Nat} (H : ∀ m, m < n + 1 → OpndC m ∧ BinC m) : BinC (n + 1) := by
  intro c w k v d R v0 v1 h0 h1 hn
  obtain ⟨Y0, hY0⟩ : ∃ Y0, Y0 = opnd fnd c.L n d (c.at k) := ⟨_, rfl⟩
  have HC : Hid (∀ W, Rd c W k → Calls Tryd.prog 62 #[c.ptr, .int .i64 d] W (RdPost c W Y0 (exR W.heap.size))) := fun W RW => by rw [hY0]; exact (H n (by omega)).1 c W k d RW h0 h1 (by omega)
  have HY : Hid (∀ e r, Y0 = .ok e r → r.length < (c.at k).length) := fun e r h => opnd_short (hY0.symm.trans h)
  have HB : Hid (∀ (m : Nat) (W : World) (j : Nat) (x : Int), m < n + 1 → Rd c W j → 1 ≤ x → x ≤ 9 → 3 * (c.at j).length + 2 ≤ m → Calls Tryd.prog 37 #[c.ptr, .int .i64 x, .int .i64 d] W (RdPost c W (binE fnd c.L m x d (c.at j)) (exR W.heap.size))) := fun m W j x hm RW h2 h3 h4 => (H m hm).2 c W j x d RW h2 h3 h0 h1 h4
  simp only [binE]
  rw [← hY0]
  have A0 := Lib.hid ((At.start R).alloc (.cells zEx 26))
  have O0 := Own.new w 26 zEx
  have HR := Lib.hid R
  have hX := Lib.hid R.lt
  have HN := Lib.hid hn
  clear hY0 H R hn
  unfold Par.ptr zEx at *
  go_enter Tryd.func37, Tryd.ntmps37
  go_wp2_with fail
  go_at_call 62
  refine (HC.out _ (A0.out.rd HR.out)).mono ?_
  rintro e w1 ⟨hf1, hm⟩
  rcases Y0 with ⟨e0, r0⟩ | ⟨p, q⟩
  rotate_left
  · obtain rfl := hm
    have A1 := Lib.hid (A0.out.fr.trans hf1)
    clear hf1
    go_wp2_with fail
    exact ⟨rfl, A1.out, rfl⟩
  obtain ⟨v1, k1, rfl, ⟨a4, cap4, rfl, hV⟩, hR1, rfl⟩ := hm
  have hlen := HY.out _ _ rfl
  have hXX := hX.out
  have l0 := O0.lt
  have B0 : Hid (BinI c w w1.heap.size v d (binL fnd c.L n v d e0 (c.at k1)) n (w1.alloc (.cells #[.int .u8 e0.kind, .int .u8 e0.op, .int .i64 e0.wd, .string e0.name, .slice a4 e0.kids.length cap4, .int .i64 e0.pos] 26))) := by
    refine ⟨k1, e0, a4, cap4, ⟨(A0.out.call hf1 hR1).alloc _, Own.new w1 _ _, (O0.fr hf1 (by omega)).alloc _, ?_⟩, rfl, by have := HN.out; omega⟩
    exact exsAt_mono (exsAt_stays (stays_alloc _ w1 _) (fun b hb => hb) (exsAt_in hV)) (fun b hb => by have h1 := hb.1; have h2 := hb.2; simp at h1; omega)
  have hw1 := Lib.hid (show w.heap.size < w1.heap.size by have := Keep.size hf1; omega)
  have HM := Lib.hid (show n < n + 1 by omega)
  obtain ⟨Y, hY⟩ : ∃ Y, Y = binL fnd c.L n v d e0 (c.at k1) := ⟨_, rfl⟩
  rw [← hY] at B0
  have HYY := Lib.hid hY.symm
  clear hf1 hV hR1 hlen hXX l0 O0 A0 hY HY HC
  go_wp2_with fail
  go_loopg [] n (fun m W => m < n + 1 ∧ BinI c w w1.heap.size v d Y m W)
  case atStart => exact ⟨HM.out, B0.out⟩
  case round =>
    obtain ⟨hm, j, e1, a5, cap5, S1, hL, hfu⟩ := hrel
    obtain ⟨m, rfl⟩ : ∃ m, gk = m + 1 := ⟨gk - 1, by omega⟩
    have hj6 : j ≤ 65536 := by have := HR.out.s.small.1; have := S1.run.le; omega
    have HS1 := Lib.hid S1
    have HFU := Lib.hid hfu
    have HMM := Lib.hid hm
    have HL := Lib.hid hL
    have HNX := Lib.hid (p_next (S1.run.rd HR.out))
    obtain ⟨t, ht⟩ : ∃ t, t = c.nx j := ⟨_, rfl⟩
    have HT := Lib.hid ht
    rw [← ht] at HNX
    clear S1 hfu hm hL ht
    obtain ⟨tk, tx, tw, tp⟩ := t
    have HOP : Hid (fnd tx.data.toList = c.op j) := by show fnd tx.data.toList = fnd (c.nx j).tx; rw [← HT.out]; rfl
    obtain ⟨op, hop⟩ : ∃ op, op = (c.op j).1 := ⟨_, rfl⟩
    obtain ⟨is, his⟩ : ∃ is, is = (c.op j).2 := ⟨_, rfl⟩
    have HFN : Hid (∀ W, Tabs W → Calls Tryd.prog 63 #[.string tx] W fun e w' => e = .returned (.tuple #[.int .u8 op, .bool is]) ∧ Below W.heap.size W w') := fun W TW => by
      have := find_any tx W TW
      rw [HOP.out, ← hop, ← his] at this
      exact this
    have hb := fnd_bd (c.nx j).tx
    have hlv : levelOf op = levelI op := by rw [hop]; exact level_fnd _
    have ho0 : 0 ≤ op := by rw [hop]; exact hb.1
    have ho1 : op ≤ 16 := by rw [hop]; exact hb.2.1
    have hoi : is = true → 1 ≤ op := by rw [hop, his]; exact hb.2.2
    have HG : Hid (goesOn c j v = (is && decide (v ≤ levelI op))) := by unfold goesOn; rw [Hid, ← hop, ← his]
    obtain ⟨lv, hlvv⟩ : ∃ lv, lv = levelI op := ⟨_, rfl⟩
    have HLV : Hid (∀ W, Tabs W → Calls Tryd.prog 18 #[.int .u8 op] W fun e w' => e = .returned (.int .i64 lv) ∧ W = w') := fun W TW => by
      have := level_any op ho0 (by omega) W TW
      rw [hlv, ← hlvv] at this
      exact this
    rw [← hlvv] at HG
    have hlb : Hid (is = true → 1 ≤ lv ∧ lv ≤ 8) := fun h => by rw [hlvv]; exact level_bd (hoi h) ho1
    have HOP2 := Lib.hid (And.intro hop hlvv)
    clear hop his hb hlv hoi hlvv
    unfold tkV at *
    go_wp2_with fail
    go_at_call 44
    refine (HNX.out).mono ?_
    rintro e w2 ⟨rfl, hb⟩
    have S2 := Lib.hid ((HS1.out.below hb).alloc (.cells #[.int .u8 tk, .string tx, .int .i64 tw, .int .i64 tp] 49))
    have T2 := Lib.hid (Own.new w2 49 #[.int .u8 tk, .string tx, .int .i64 tw, .int .i64 tp])
    have hz2 := Lib.hid (HS1.out.below hb).left.lt
    clear hb
    go_wp2_with fail
    go_at_call 63
    refine (HFN.out _ (S2.out.run.rd HR.out).s.tabs).mono ?_
    rintro e w3 ⟨rfl, hb⟩
    have S3 := Lib.hid (S2.out.below hb)
    have T3 := Lib.hid (T2.out.below hb)
    clear hb
    by_cases hg : goesOn c j v = true
    · obtain ⟨hjlt, hsp⟩ := binL_go (n := m) (d := d) (e := e1) hg
      rw [HG.out] at hg
      obtain ⟨rfl, hvl⟩ : is = true ∧ v ≤ lv := by simpa using hg
      obtain ⟨lv1, lv8⟩ := hlb.out rfl
      obtain ⟨Z, hZ⟩ : ∃ Z, Z = binE fnd c.L m (lv + 1) d (c.at (j + 1)) := ⟨_, rfl⟩
      have hlen : (c.at j).length = (c.at (j + 1)).length + 1 := by rw [at_nx hjlt]; rfl
      have HBC : Hid (∀ W, Rd c W (j + 1) → Calls Tryd.prog 37 #[.pointer (some ⟨c.X, 0, none⟩), .int .i64 (lv + 1), .int .i64 d] W (RdPost c W Z (exR W.heap.size))) := fun W RW => by
        rw [hZ]; exact HB.out m W (j + 1) (lv + 1) (by have := HMM.out; omega) RW (by omega) (by omega) (by have := HFU.out; omega)
      have HSP : Hid (Y = Z.then fun f r => binL fnd c.L m v d (biX op tp e1 f) r) := by
        rw [Hid, ← HL.out, hsp, hZ, ← HOP2.out.1, ← HOP2.out.2, ← HT.out]
      have HZL : Hid (∀ e r, Z = .ok e r → r.length < (c.at (j + 1)).length) := fun e r h => binE_short (hZ.symm.trans h)
      have HLEN := Lib.hid hlen
      have HJ := Lib.hid hjlt
      obtain ⟨⟨_, _, x2, _⟩, xf⟩ := S3.out.run.cells
      have S4 := Lib.hid (S3.out.step hjlt hX.out hw1.out)
      have hn3 := Lib.hid (show c.X ≠ w2.heap.size by have := hX.out; have := hw1.out; have := hz2.out; omega)
      have T4 := Lib.hid (T3.out.setX 2 (.int .i64 ((j : Int) + 1)) hn3.out)
      clear hg hsp hZ hlen hjlt
      go_wp2_with (first | (go_at_call 18; refine (HLV.out _ (S3.out.run.rd HR.out).s.tabs).mono ?_; rintro e w4 ⟨rfl, rfl⟩) | (go_at_call 18; refine (HLV.out _ (S4.out.run.rd HR.out).s.tabs).mono ?_; rintro e w4 ⟨rfl, rfl⟩))
      go_at_call 37
      refine (HBC.out _ (S4.out.run.rd HR.out)).mono ?_
      rintro e w5 ⟨hf5, hm5⟩
      rcases Z with ⟨e2, r2⟩ | ⟨p, q⟩
      rotate_left
      · obtain rfl := hm5
        have A5 := Lib.hid (S4.out.run.fr.trans hf5)
        clear hf5 x2 xf
        go_wp2_with fail
        refine ⟨rfl, ?_⟩
        show RdPost c w (binL fnd c.L n v d e0 (c.at k1)) _ _ _
        rw [HYY.out, HSP.out]
        exact ⟨A5.out, rfl⟩
      obtain ⟨v2, k2, rfl, ⟨a6, cap6, rfl, hV⟩, hR5, rfl⟩ := hm5
      have S5 := S4.out.call hf5 hR5 hX.out hw1.out
      have T5 := T4.out.fr hf5 hn3.out
      have S6 := Lib.hid ((S5.alloc (.cells #[.int .u8 e2.kind, .int .u8 e2.op, .int .i64 e2.wd, .string e2.name, .slice a6 e2.kids.length cap6, .int .i64 e2.pos] 26)).alloc (.cells #[.int .u8 e1.kind, .int .u8 e1.op, .int .i64 e1.wd, .string e1.name, .slice a5 e1.kids.length cap5, .int .i64 e1.pos, .int .u8 e2.kind, .int .u8 e2.op, .int .i64 e2.wd, .string e2.name, .slice a6 e2.kids.length cap6, .int .i64 e2.pos] 26))
      have O7 := (S5.alloc (.cells #[.int .u8 e2.kind, .int .u8 e2.op, .int .i64 e2.wd, .string e2.name, .slice a6 e2.kids.length cap6, .int .i64 e2.pos] 26)).left
      have N6 := Own.new w5 26 #[.int .u8 e2.kind, .int .u8 e2.op, .int .i64 e2.wd, .string e2.name, .slice a6 e2.kids.length cap6, .int .i64 e2.pos]
      have N7 := Own.new (w5.alloc (.cells #[.int .u8 e2.kind, .int .u8 e2.op, .int .i64 e2.wd, .string e2.name, .slice a6 e2.kids.length cap6, .int .i64 e2.pos] 26)) 26 #[.int .u8 e1.kind, .int .u8 e1.op, .int .i64 e1.wd, .string e1.name, .slice a5 e1.kids.length cap5, .int .i64 e1.pos, .int .u8 e2.kind, .int .u8 e2.op, .int .i64 e2.wd, .string e2.name, .slice a6 e2.kids.length cap6, .int .i64 e2.pos]
      rw [World.size_alloc] at N7
      have N7 := Lib.hid N7
      have t3 : w5.cell? ⟨w2.heap.size, 3, none⟩ = some (.int .i64 tp) := by rw [cell_of_row w5 w2.heap.size 3 _ _ _ T5]; rfl
      have hl5 := T5.lt
      have O77 := S6.out.left
      have hV5 := Lib.hid (exsAt_in hV)
      have hl7 := Lib.hid (And.intro S5.left.lt (show w1.heap.size < w2.heap.size from hz2.out))
      have hsz5 := Lib.hid (Keep.size hf5)
      have hk2 := Lib.hid (HZL.out _ _ rfl)
      clear hf5 hR5 hV S5 T5 x2 xf
      go_wp2_with (first | (refine ld rowEx rfl rfl rfl O7 rfl ?_) | (refine ld rowEx rfl rfl rfl N6 rfl ?_) | (refine st rowEx rfl rfl O77 rfl rfl (by rfl) (by rfl) (by kernel_rfl) ?_))
      go_roundg m
      case measure => omega
      case rel =>
        have hx := hX.out
        have h17 := hw1.out
        obtain ⟨h27, h37⟩ := hl7.out
        have h5 := hsz5.out
        have h2z := hz2.out
        have h23 := T3.out.lt
        have h4s : w3.heap.size ≤ w5.heap.size := by simpa using h5
        have S7 := S6.out.run.setRow (g := w1.heap.size) (by omega) (by omega) #[.int .u8 4, .int .u8 op, .int .i64 0, .string ⟨#[]⟩, .slice (some ⟨w5.heap.size + 1, 0, none⟩) 2 2, .int .i64 tp]
        have st7 : Stays (fun b => w.heap.size < b ∧ b ≠ w1.heap.size) (w5.alloc (.cells #[.int .u8 e2.kind, .int .u8 e2.op, .int .i64 e2.wd, .string e2.name, .slice a6 e2.kids.length cap6, .int .i64 e2.pos] 26)) (((w5.alloc (.cells #[.int .u8 e2.kind, .int .u8 e2.op, .int .i64 e2.wd, .string e2.name, .slice a6 e2.kids.length cap6, .int .i64 e2.pos] 26)).alloc (.cells #[.int .u8 e1.kind, .int .u8 e1.op, .int .i64 e1.wd, .string e1.name, .slice a5 e1.kids.length cap5, .int .i64 e1.pos, .int .u8 e2.kind, .int .u8 e2.op, .int .i64 e2.wd, .string e2.name, .slice a6 e2.kids.length cap6, .int .i64 e2.pos] 26)).setRow w1.heap.size #[.int .u8 4, .int .u8 op, .int .i64 0, .string ⟨#[]⟩, .slice (some ⟨w5.heap.size + 1, 0, none⟩) 2 2, .int .i64 tp]) := (stays_alloc _ _ _).trans (stays_row _ _ (fun b hb => by omega))
        have N8 := N7.out.other #[.int .u8 4, .int .u8 op, .int .i64 0, .string ⟨#[]⟩, .slice (some ⟨w5.heap.size + 1, 0, none⟩) 2 2, .int .i64 tp] (g := w1.heap.size) (by omega)
        refine ⟨by have := HMM.out; omega, k2, biX op tp e1 e2, some ⟨w5.heap.size + 1, 0, none⟩, 2, ⟨S7, S6.out.left.row _, S6.out.res.other _ (by omega), ?_⟩, ?_, ?_⟩
        · refine .inr ⟨w5.heap.size + 1, 0, rfl, ⟨by omega, by omega⟩, ?_⟩
          have v1 := exsAt_stays (stays_row _ (g := w1.heap.size) #[.int .u8 4, .int .u8 op, .int .i64 0, .string ⟨#[]⟩, .slice (some ⟨w5.heap.size + 1, 0, none⟩) 2 2, .int .i64 tp] (fun b hb => by omega)) (fun b hb => hb) S6.out.tree
          have v2 := exsAt_mono (exsAt_stays ((stays_alloc _ w5 (.cells #[.int .u8 e2.kind, .int .u8 e2.op, .int .i64 e2.wd, .string e2.name, .slice a6 e2.kids.length cap6, .int .i64 e2.pos] 26)).trans ((stays_alloc _ _ (.cells #[.int .u8 e1.kind, .int .u8 e1.op, .int .i64 e1.wd, .string e1.name, .slice a5 e1.kids.length cap5, .int .i64 e1.pos, .int .u8 e2.kind, .int .u8 e2.op, .int .i64 e2.wd, .string e2.name, .slice a6 e2.kids.length cap6, .int .i64 e2.pos] 26)).trans (stays_row _ (g := w1.heap.size) #[.int .u8 4, .int .u8 op, .int .i64 0, .string ⟨#[]⟩, .slice (some ⟨w5.heap.size + 1, 0, none⟩) 2 2, .int .i64 tp] (fun b hb => by have h1 := hb.1; simp at h1; omega)))) (fun b hb => hb) hV5.out) (R' := fun b => w.heap.size < b ∧ b ≠ w1.heap.size) (fun b hb => by have h1 := hb.1; simp at h1; omega)
          refine ⟨exIn_of (vs := exCells e1 a5 cap5) ⟨a5, cap5, rfl, v1⟩ ?_, exIn_of (vs := exCells e2 a6 cap6) ⟨a6, cap6, rfl, v2⟩ ?_, trivial⟩
          · intro q u hq
            have hq6 : q < 6 := (List.getElem?_eq_some_iff.1 hq).1
            rw [Nat.zero_add, cell_of_row _ (w5.heap.size + 1) q _ _ _ N8, ← hq]
            have : q = 0 ∨ q = 1 ∨ q = 2 ∨ q = 3 ∨ q = 4 ∨ q = 5 := by omega
            rcases this with rfl | rfl | rfl | rfl | rfl | rfl <;> rfl
          · intro q u hq
            have hq6 : q < 6 := (List.getElem?_eq_some_iff.1 hq).1
            rw [cell_of_row _ (w5.heap.size + 1) (0 + 6 + q) _ _ _ N8, ← hq]
            have : q = 0 ∨ q = 1 ∨ q = 2 ∨ q = 3 ∨ q = 4 ∨ q = 5 := by omega
            rcases this with rfl | rfl | rfl | rfl | rfl | rfl <;> rfl
        · rw [HSP.out]; rfl
        · have h1 := hk2.out
          have h2 := HFU.out
          have h3 := HLEN.out
          omega
    · have hg' : goesOn c j v = false := by simpa using hg
      have hres : Hid (Y = .ok e1 (c.at j)) := by rw [Hid, ← HL.out]; exact binL_stop hg'
      have fin : ∀ (W : World), W = w3 → RdPost c w (binL fnd c.L n v d e0 (c.at k1)) (exR w.heap.size) (.returned (.agg #[.int .u8 e1.kind, .int .u8 e1.op, .int .i64 e1.wd, .string e1.name, .slice a5 e1.kids.length cap5, .int .i64 e1.pos])) (W.setRow w.heap.size #[.int .u8 e1.kind, .int .u8 e1.op, .int .i64 e1.wd, .string e1.name, .slice a5 e1.kids.length cap5, .int .i64 e1.pos]) := by
        rintro W rfl
        rw [HYY.out, hres.out]
        have hx := hX.out
        have S4 := S3.out.run.setRow (Nat.le_refl _) (by omega) #[.int .u8 e1.kind, .int .u8 e1.op, .int .i64 e1.wd, .string e1.name, .slice a5 e1.kids.length cap5, .int .i64 e1.pos]
        exact ⟨S4.fr, _, j, rfl, ⟨a5, cap5, rfl, exsAt_mono (exsAt_stays (stays_row W (g := w.heap.size) #[.int .u8 e1.kind, .int .u8 e1.op, .int .i64 e1.wd, .string e1.name, .slice a5 e1.kids.length cap5, .int .i64 e1.pos] (fun b hb => by omega)) (fun b hb => hb) S3.out.tree) (fun b hb => by omega)⟩, S4.rd HR.out, rfl⟩
      have O7 := S3.out.left
      have O6 := S3.out.res
      have fin := Lib.hid fin
      rw [HG.out] at hg'
      clear hg
      cases is with
      | false =>
        clear hg'
        go_wp2_with (first | (refine ld rowEx rfl rfl rfl O7 rfl ?_) | (refine st rowEx rfl rfl O6 rfl rfl (by rfl) (by rfl) (by kernel_rfl) ?_))
        exact p_ret rowEx rfl (O6.row #[.int .u8 e1.kind, .int .u8 e1.op, .int .i64 e1.wd, .string e1.name, .slice a5 e1.kids.length cap5, .int .i64 e1.pos]) rfl rfl rfl (fin.out _ rfl)
      | true =>
        have hlt : lv < v := by simpa using hg'
        clear hg'
        go_wp2_with (first | (go_at_call 18; refine (HLV.out _ (S3.out.run.rd HR.out).s.tabs).mono ?_; rintro e w4 ⟨rfl, rfl⟩) | (refine ld rowEx rfl rfl rfl O7 rfl ?_) | (refine st rowEx rfl rfl O6 rfl rfl (by rfl) (by rfl) (by kernel_rfl) ?_))
        exact p_ret rowEx rfl (O6.row #[.int .u8 e1.kind, .int .u8 e1.op, .int .i64 e1.wd, .string e1.name, .slice a5 e1.kids.length cap5, .int .i64 e1.pos]) rfl rfl rfl (fin.out _ rfl)
theorem exprs_step {n : Nat} (H : ∀ m, m < n → OpndC m ∧ BinC m) : OpndC n ∧ BinC n := by
  cases n with
  | zero => exact ⟨fun c w k d _ _ _ h => by omega, fun c w k v d _ _ _ _ _ h => by omega⟩
  | succ n => exact ⟨opnd_step (H n (by omega)).1 (H n (by omega)).2, p_binary H⟩
theorem exprs_all (n : Nat) : OpndC n ∧ BinC n := by
  induction n using Nat.strongRecOn with
  | ind n ih => exact exprs_step ih
/-- An expression. -/
theorem p_expression {c : Par} {w : World} {k n : Nat} (R : Rd c w k) (hn : 3 * (c.at k).length + 2 ≤ n) :
    Calls Tryd.prog 20 #[c.ptr] w (RdPost c w (binE fnd c.L n 1 0 (c.at k)) (exR w.heap.size)) := by
  obtain ⟨Y, hY⟩ : ∃ Y, Y = binE fnd c.L n 1 0 (c.at k) := ⟨_, rfl⟩
  have HC : Hid (∀ W, Rd c W k → Calls Tryd.prog 37 #[c.ptr, .int .i64 1, .int .i64 0] W (RdPost c W Y (exR W.heap.size))) := fun W RW => by
    rw [hY]; exact (exprs_all n).2 c W k 1 0 RW (by omega) (by omega) (by omega) (by omega) hn
  rw [← hY]
  have A0 := Lib.hid ((At.start R).alloc (.cells zEx 26))
  have O0 := Own.new w 26 zEx
  have HR := Lib.hid R
  have hX := Lib.hid R.lt
  clear hY R hn
  unfold Par.ptr zEx at *
  go_enter Tryd.func20, Tryd.ntmps20
  go_wp2_with fail
  go_at_call 37
  refine (HC.out _ (A0.out.rd HR.out)).mono ?_
  rintro e w1 ⟨hf1, hm⟩
  rcases Y with ⟨e0, r0⟩ | ⟨p, q⟩
  rotate_left
  · obtain rfl := hm
    have A1 := Lib.hid (A0.out.fr.trans hf1)
    clear hf1
    go_wp2_with fail
    exact ⟨rfl, A1.out, rfl⟩
  obtain ⟨v1, k1, rfl, ⟨a4, cap4, rfl, hV⟩, hR1, rfl⟩ := hm
  have hx := hX.out
  have O1 := O0.fr hf1 (by omega)
  have A1 := Lib.hid (A0.out.call hf1 hR1)
  have HV := Lib.hid hV
  clear hf1 hV hR1 hx
  go_wp2_with (first | (refine st rowEx rfl rfl O1 rfl rfl (by rfl) (by rfl) (by kernel_rfl) ?_))
  have hx := hX.out
  have A2 := A1.out.setRow (Nat.le_refl _) (by omega) #[.int .u8 e0.kind, .int .u8 e0.op, .int .i64 e0.wd, .string e0.name, .slice a4 e0.kids.length cap4, .int .i64 e0.pos]
  refine p_ret rowEx rfl (O1.row #[.int .u8 e0.kind, .int .u8 e0.op, .int .i64 e0.wd, .string e0.name, .slice a4 e0.kids.length cap4, .int .i64 e0.pos]) rfl rfl rfl ?_
  exact ⟨A2.fr, _, k1, rfl, ⟨a4, cap4, rfl, exsAt_mono (exsAt_stays (stays_row w1 (g := w.heap.size) _ (fun b hb => by simp at hb; omega)) (fun b hb => hb) HV.out) (fun b hb => by simp at hb; omega)⟩, A2.rd HR.out, rfl⟩
end Go.Proofs.YtjpmdafaaonpoaaDoor

namespace Go.Proofs.YtjpmdafaaonpoaaDoor
open Go.RowKit
set_option linter.unusedVariables false

/-- A row of the call's own stays. -/
theorem row_stays {W W' : World} {base : Nat} {T : TypeId} {n : Nat} {v : Value} {k : Nat} {xs : List Value} (h : W.ownsRow base T n v k xs) (hw : ∀ g, base ≤ g → v.ownBlock = some g → g < W.heap.size → W'.heap[g]? = W.heap[g]?) : W'.ownsRow base T n v k xs := by
  obtain ⟨h1, h2⟩ := h
  refine ⟨h1, ?_⟩
  rcases h2 with h2 | ⟨g, cap, cur, rfl, hb, hg, rest⟩
  · exact .inl h2
  · exact .inr ⟨g, cap, cur, rfl, hb, (hw g hb rfl (Array.getElem?_eq_some_iff.1 hg).1).trans hg, rest⟩
theorem row_below {W W' : World} {base : Nat} {T : TypeId} {n : Nat} {v : Value} {k : Nat} {xs : List Value} (h : W.ownsRow base T n v k xs) (hb : Below W.heap.size W W') : W'.ownsRow base T n v k xs := row_stays h fun g _ _ hg => hb.block g hg
theorem row_fr {c : Par} {W W' : World} {base : Nat} {T : TypeId} {n : Nat} {v : Value} {k : Nat} {xs : List Value} (h : W.ownsRow base T n v k xs) (hf : Fr c W W') (hx : c.X < base) : W'.ownsRow base T n v k xs :=
  row_stays h fun g hb _ hg => by
    rw [hf.block (b := g) (Array.getElem?_eq_getElem hg) (by omega), Array.getElem?_eq_getElem hg]
theorem row_setX {W : World} {base : Nat} {T : TypeId} {n : Nat} {v : Value} {k : Nat} {xs : List Value} (h : W.ownsRow base T n v k xs) {x : Nat} (j : Nat) (u : Value) (hx : x < base) : (W.setCell ⟨x, j, none⟩ u).ownsRow base T n v k xs :=
  row_stays h fun g hb _ _ => Below.heap_setCell _ _ _ _ (show g ≠ x by omega)
theorem row_row {W : World} {base : Nat} {T : TypeId} {n : Nat} {v : Value} {k : Nat} {xs : List Value} (h : W.ownsRow base T n v k xs) {g : Nat} (cs : Array Value) (hg : v.ownBlock ≠ some g) : (W.setRow g cs).ownsRow base T n v k xs :=
  row_stays h fun b _ hb _ => setRow_other cs (fun e => hg (by rw [← e]; exact hb))
theorem row_base {W : World} {base base' : Nat} {T : TypeId} {n : Nat} {v : Value} {k : Nat} {xs : List Value} (h : W.ownsRow base T n v k xs) (hb : base' ≤ base) : W.ownsRow base' T n v k xs := ownsRow_base h hb
theorem row_shape {W : World} {base : Nat} {T : TypeId} {n : Nat} {v : Value} {k : Nat} {xs : List Value} (h : W.ownsRow base T n v k xs) : ∃ oa cap, v = .slice oa k cap ∧ (k ≠ 0 → ∃ g, oa = some ⟨g, 0, none⟩ ∧ base ≤ g) := by
  rcases h.2 with ⟨rfl, rfl⟩ | ⟨g, cap, cur, rfl, hb, _⟩
  · exact ⟨none, 0, rfl, fun h => absurd rfl h⟩
  · exact ⟨_, cap, rfl, fun _ => ⟨g, rfl, hb⟩⟩
theorem row_cells {W : World} {base : Nat} {T : TypeId} {n : Nat} {v : Value} {k : Nat} {xs : List Value} (h : W.ownsRow base T n v k xs) {g : Nat} (hg : v.ownBlock = some g) : cellsIn W g 0 xs := by
  intro j u hj
  have := h.cells hg j u hj
  rw [show (⟨g, 0, none⟩ : Addr).add j = ⟨g, 0 + j, none⟩ by by_cases h0 : j = 0 <;> simp [Addr.add, h0]] at this
  exact this
theorem grown_fr {c : Par} {w W W' : World} {k : Nat} (A : At c w W k) {row : Option Nat} (hg : W.grownBy W' row) (hr : ∀ r, row = some r → w.heap.size ≤ r ∧ r ≠ c.X) : At c w W' k := by
  refine ⟨Keep.grown A.fr hg (fun r o e _ hs => by have := hr r e; have := hs.1; omega), ?_, A.le⟩
  rw [hg.block c.X A.lt (fun e => (hr c.X e.symm).2 rfl)]
  exact A.pos
theorem own_grown {W W' : World} {b : Nat} {t : TypeId} {cs : Array Value} (h : Own W b t cs) {row : Option Nat} (hg : W.grownBy W' row) (hr : row ≠ some b) : Own W' b t cs := (hg.block b h.lt (fun e => hr e.symm)).trans h
theorem stays_grown {R : Nat → Prop} {W W' : World} {row : Option Nat} (hg : W.grownBy W' row) (hr : ∀ b, R b → row ≠ some b) : Stays R W W' := fun b o v hb hv => by
  have e := hg.block b (by have := cell_lt hv; simpa using this) (fun e => hr b hb e.symm)
  rw [← hv]; simp only [World.cell?, e]
/-- A declaration, as a value. -/
def dcVal (d : Dc) : Value := .agg #[.string d.name, .int .i64 d.wd, .int .i64 d.pos]
set_option maxRecDepth 100000 in
set_option maxHeartbeats 1000000 in
theorem p_name_ok {c : Par} {w : World} {k : Nat} (R : Rd c w k) (h : (c.nx k).kind = 1) :
    Calls Tryd.prog 69 #[c.ptr] w fun e w' => e = .returned (dcVal ⟨(c.nx k).text, 0, (c.nx k).pos⟩) ∧ Fr c w w' ∧ Rd c w' (k + 1) := by
  have HK : Hid (∀ W, Rd c W k → Calls Tryd.prog 86 #[c.ptr, .int .u8 1] W fun e w' => e = .returned (tkV (c.nx k)) ∧ Fr c W w' ∧ Rd c w' (k + 1)) := fun W RW => p_kind_ok RW 1 h (nx_lt (.inl (by rw [h]; decide)))
  obtain ⟨t, ht⟩ : ∃ t, t = c.nx k := ⟨_, rfl⟩
  rw [← ht] at HK ⊢
  obtain ⟨tk, tx, tw, tp⟩ := t
  have A0 := Lib.hid ((At.start R).alloc (.cells zDc 71))
  have O0 := Own.new w 71 zDc
  have HR := Lib.hid R
  have hX := Lib.hid R.lt
  clear ht h R
  unfold tkV Par.ptr zDc dcVal at *
  go_enter Tryd.func69, Tryd.ntmps69
  go_wp2_with fail
  go_at_call 86
  refine (HK.out _ (A0.out.rd HR.out)).mono ?_
  rintro e w1 ⟨rfl, hf1, hR1⟩
  have hx := hX.out
  have A1 := Lib.hid ((A0.out.call hf1 hR1).alloc (.cells #[.int .u8 tk, .string tx, .int .i64 tw, .int .i64 tp] 49))
  have O1 := (O0.fr hf1 (by omega)).alloc (.cells #[.int .u8 tk, .string tx, .int .i64 tw, .int .i64 tp] 49)
  clear hf1 hR1 hx O0
  go_wp2_with (first | (refine st rowDc rfl rfl O1 rfl rfl (by rfl) (by rfl) (by kernel_rfl) ?_))
  have hx := hX.out
  have A2 := A1.out.setRow (Nat.le_refl _) (by omega) #[.string tx, .int .i64 0, .int .i64 tp]
  exact p_ret rowDc rfl (O1.row #[.string tx, .int .i64 0, .int .i64 tp]) rfl rfl rfl ⟨rfl, A2.fr, A2.rd HR.out⟩
theorem p_name_bad {c : Par} {w : World} {k : Nat} (R : Rd c w k) (h : ¬ (c.nx k).kind = 1) :
    Calls Tryd.prog 69 #[c.ptr] w fun e w' => e = .panicked (flt (hdP c.L (c.at k)) 2) ∧ Fr c w w' := by
  have HK : Hid (∀ W, Rd c W k → Calls Tryd.prog 86 #[c.ptr, .int .u8 1] W fun e w' => e = .panicked (flt (hdP c.L (c.at k)) 2) ∧ Fr c W w') := fun W RW => p_kind_bad RW 1 h
  have A0 := Lib.hid ((At.start R).alloc (.cells zDc 71))
  have HR := Lib.hid R
  clear h R
  unfold Par.ptr zDc at *
  go_enter Tryd.func69, Tryd.ntmps69
  go_wp2_with (go_at_call 86; refine (HK.out _ (A0.out.rd HR.out)).mono ?_; rintro e w1 ⟨rfl, hf1⟩; have A1 := Lib.hid (A0.out.fr.trans hf1); clear hf1)
  exact ⟨rfl, rfl, A1.out⟩
theorem nameP_at {c : Par} {k : Nat} : nameP c.L (c.at k) = if (c.nx k).kind = 1 then .ok ⟨(c.nx k).text, 0, (c.nx k).pos⟩ (c.at (k + 1)) else .bad (hdP c.L (c.at k)) 2 := by
  by_cases hk : k < c.toks.length
  · rw [at_nx hk]
    simp only [nameP, hdP]
  · have e := Par.at_end (c := c) (k := k) (by omega)
    have : c.nx k = ⟨0, ⟨#[]⟩, 0, c.L⟩ := by unfold Par.nx; rw [e]
    rw [e, this]
    rfl
theorem numP_at {c : Par} {k : Nat} : numP c.L (c.at k) = if (c.nx k).kind = 3 then .ok (c.nx k).wd (c.at (k + 1)) else .bad (hdP c.L (c.at k)) 2 := by
  by_cases hk : k < c.toks.length
  · rw [at_nx hk]
    simp only [numP, hdP]
  · have e := Par.at_end (c := c) (k := k) (by omega)
    have : c.nx k = ⟨0, ⟨#[]⟩, 0, c.L⟩ := by unfold Par.nx; rw [e]
    rw [e, this]
    rfl
theorem p_name {c : Par} {w : World} {k : Nat} (R : Rd c w k) : Calls Tryd.prog 69 #[c.ptr] w (RdPost c w (nameP c.L (c.at k)) (fun d v _ => v = dcVal d)) := by
  rw [nameP_at]
  by_cases h : (c.nx k).kind = 1
  · rw [if_pos h]
    exact (p_name_ok R h).mono fun e w' ⟨he, hf, hr⟩ => ⟨hf, _, k + 1, he, rfl, hr, rfl⟩
  · rw [if_neg h]
    exact (p_name_bad R h).mono fun e w' ⟨he, hf⟩ => ⟨hf, he⟩
end Go.Proofs.YtjpmdafaaonpoaaDoor

namespace Go.Proofs.YtjpmdafaaonpoaaDoor
open Go.RowKit
set_option linter.unusedVariables false
theorem wd_bd {c : Par} {w : World} {k : Nat} (R : Rd c w k) : 0 ≤ (c.nx k).wd ∧ (c.nx k).wd ≤ 9223372036854775807 := by
  by_cases hk : k < c.toks.length
  · have : c.nx k = (c.toks[k]).tk := by unfold Par.nx; rw [Par.at_lt hk]
    rw [this]
    exact R.s.small.2.2 _ (List.getElem_mem hk)
  · have : c.nx k = ⟨0, ⟨#[]⟩, 0, c.L⟩ := by unfold Par.nx; rw [Par.at_end (by omega)]
    rw [this]; exact ⟨Int.le_refl _, by show (0 : Int) ≤ 9223372036854775807; decide⟩
/-- The word of a name, behind its sign. -/
def firstP.go (L : Int) (d : Dc) (b : Bool) (ts : List Tk) : PR Dc := (numP L ts).then fun v r => .ok ⟨d.name, if b then -v else v, d.pos⟩ r
set_option maxRecDepth 100000 in
set_option maxHeartbeats 4000000 in
theorem p_first {c : Par} {w : World} {k : Nat} (R : Rd c w k) : Calls Tryd.prog 83 #[c.ptr] w (RdPost c w (firstP c.L (c.at k)) (fun d v _ => v = dcVal d)) := by
  have HK : Hid (∀ W, Rd c W k → Calls Tryd.prog 69 #[c.ptr] W (RdPost c W (nameP c.L (c.at k)) (fun d v _ => v = dcVal d))) := fun W RW => p_name RW
  have HP : Hid (∀ W j (s : ByteArray), Rd c W j → s.data.toList ≠ [] → Calls Tryd.prog 45 #[c.ptr, .string s] W fun e w' => e = .returned (.bool (isT s.data.toList (c.at j))) ∧ Fr c W w' ∧ Rd c w' (if isT s.data.toList (c.at j) = true then j + 1 else j)) := fun W j s RW hs => p_pass RW s hs
  have HT : Hid (∀ W j, Rd c W j → (c.nx j).kind = 3 → Calls Tryd.prog 86 #[c.ptr, .int .u8 3] W fun e w' => e = .returned (tkV (c.nx j)) ∧ Fr c W w' ∧ Rd c w' (j + 1)) := fun W j RW h => p_kind_ok RW 3 h (nx_lt (.inl (by rw [h]; decide)))
  have HU : Hid (∀ W j, Rd c W j → ¬ (c.nx j).kind = 3 → Calls Tryd.prog 86 #[c.ptr, .int .u8 3] W fun e w' => e = .panicked (flt (hdP c.L (c.at j)) 2) ∧ Fr c W w') := fun W j RW h => p_kind_bad RW 3 h
  obtain ⟨Y, hY⟩ : ∃ Y, Y = nameP c.L (c.at k) := ⟨_, rfl⟩
  unfold firstP
  rw [← hY] at HK ⊢
  have A0 := Lib.hid ((At.start R).alloc (.cells zDc 71))
  have O0 := Own.new w 71 zDc
  have HR := Lib.hid R
  have hX := Lib.hid R.lt
  clear hY R
  unfold Par.ptr zDc dcVal tkV at *
  go_enter Tryd.func83, Tryd.ntmps83
  go_wp2_with fail
  go_at_call 69
  refine (HK.out _ (A0.out.rd HR.out)).mono ?_
  rintro e w1 ⟨hf1, hm⟩
  rcases Y with ⟨d0, r0⟩ | ⟨p, q⟩
  rotate_left
  · obtain rfl := hm
    have A1 := Lib.hid (A0.out.fr.trans hf1)
    clear hf1
    go_wp2_with fail
    exact ⟨rfl, A1.out, rfl⟩
  obtain ⟨v1, k1, rfl, rfl, hR1, rfl⟩ := hm
  obtain ⟨dn, dw, dp⟩ := d0
  have hx := hX.out
  have A1 := Lib.hid ((A0.out.call hf1 hR1).alloc (.cells #[.string dn, .int .i64 dw, .int .i64 dp] 71))
  have O1 := Lib.hid ((O0.fr hf1 (by omega)).alloc (.cells #[.string dn, .int .i64 dw, .int .i64 dp] 71))
  have N1 := Lib.hid (Own.new w1 71 #[.string dn, .int .i64 dw, .int .i64 dp])
  have hw1 := Lib.hid (O0.fr hf1 (by omega)).lt
  clear hf1 hR1 hx O0
  go_wp2_with fail
  by_cases h1 : isT [61] (c.at k1) = true
  rotate_left
  · go_at_call 45
    refine (HP.out _ k1 ⟨#[61]⟩ (A1.out.rd HR.out) (by decide)).mono ?_
    have h1' : isT [61] (c.at k1) = false := by simpa using h1
    rintro e w2 ⟨he, hf2, hR2⟩
    rw [show (⟨#[61]⟩ : ByteArray).data.toList = [61] from rfl, h1'] at he hR2
    rw [if_neg (by simp)] at hR2
    subst he
    have hx := hX.out
    have hww := hw1.out
    have A2 := Lib.hid (A1.out.call hf2 hR2)
    have O2 := O1.out.fr hf2 (by omega)
    have N2 := N1.out.fr hf2 (by omega)
    have H1 := Lib.hid h1'
    clear hf2 hR2 hx hww h1 h1'
    go_wp2_with (first | (refine ld rowDc rfl rfl rfl N2 rfl ?_) | (refine st rowDc rfl rfl O2 rfl rfl (by rfl) (by rfl) (by kernel_rfl) ?_))
    have hx := hX.out
    have A3 := A2.out.setRow (Nat.le_refl _) (by omega) #[.string dn, .int .i64 dw, .int .i64 dp]
    refine p_ret rowDc rfl (O2.row #[.string dn, .int .i64 dw, .int .i64 dp]) rfl rfl rfl ?_
    simp only [PR.then_ok, H1.out]
    exact ⟨A3.fr, _, k1, rfl, rfl, A3.rd HR.out, rfl⟩
  go_at_call 45
  refine (HP.out _ k1 ⟨#[61]⟩ (A1.out.rd HR.out) (by decide)).mono ?_
  rintro e w2 ⟨he, hf2, hR2⟩
  rw [show (⟨#[61]⟩ : ByteArray).data.toList = [61] from rfl, h1] at he hR2
  rw [if_pos rfl] at hR2
  subst he
  have hx := hX.out
  have hww := hw1.out
  have A2 := Lib.hid (A1.out.call hf2 hR2)
  have O2 := Lib.hid (O1.out.fr hf2 (by omega))
  have N2 := Lib.hid (N1.out.fr hf2 (by omega))
  have H1 := Lib.hid h1
  clear hf2 hR2 hx hww h1
  go_wp2_with fail
  obtain ⟨b, hb⟩ : ∃ b, b = isT [45] (c.at (k1 + 1)) := ⟨_, rfl⟩
  obtain ⟨k3, hk3⟩ : ∃ k3, k3 = if b = true then k1 + 1 + 1 else k1 + 1 := ⟨_, rfl⟩
  have H3 : Hid (RdPost c w (firstP.go c.L ⟨dn, dw, dp⟩ b (c.at k3)) (fun d v _ => v = .agg #[.string d.name, .int .i64 d.wd, .int .i64 d.pos]) = RdPost c w (((PR.ok (⟨dn, dw, dp⟩ : Dc) (c.at k1)).then fun d r => if isT [61] r = true then if isT [45] r.tail = true then (numP c.L r.tail.tail).then fun v r => .ok ⟨d.name, -v, d.pos⟩ r else (numP c.L r.tail).then fun v r => .ok ⟨d.name, v, d.pos⟩ r else .ok d r)) (fun d v _ => v = .agg #[.string d.name, .int .i64 d.wd, .int .i64 d.pos])) := by
    rw [Hid]
    congr 1
    simp only [PR.then_ok, H1.out, if_true, Par.at_tail, ← hb, hk3]
    cases b <;> rfl
  have HB := Lib.hid (And.intro hb hk3)
  clear hb hk3
  go_at_call 45
  refine (HP.out _ (k1 + 1) ⟨#[45]⟩ (A2.out.rd HR.out) (by decide)).mono ?_
  rintro e w3 ⟨he, hf3, hR3⟩
  rw [show (⟨#[45]⟩ : ByteArray).data.toList = [45] from rfl, ← HB.out.1] at he hR3
  rw [← HB.out.2] at hR3
  subst he
  have hx := hX.out
  have hww := hw1.out
  have A3 := Lib.hid (A2.out.call hf3 hR3)
  have O3 := Lib.hid (O2.out.fr hf3 (by omega))
  have N3 := Lib.hid (N2.out.fr hf3 (by omega))
  clear hf3 hR3 hx hww
  go_wp2_with fail
  by_cases hkd : (c.nx k3).kind = 3
  rotate_left
  · go_at_call 86
    refine (HU.out _ k3 (A3.out.rd HR.out) hkd).mono ?_
    rintro e w4 ⟨rfl, hf4⟩
    have A4 := Lib.hid (A3.out.fr.trans hf4)
    have HKD := Lib.hid hkd
    clear hf4 hkd
    go_wp2_with fail
    refine ⟨rfl, ?_⟩
    rw [← H3.out]
    unfold firstP.go
    rw [numP_at, if_neg HKD.out]
    exact ⟨A4.out, rfl⟩
  have hbd := wd_bd (A3.out.rd HR.out)
  have HT2 := Lib.hid (HT.out _ k3 (A3.out.rd HR.out) hkd)
  obtain ⟨t, ht⟩ : ∃ t, t = c.nx k3 := ⟨_, rfl⟩
  have HTT := Lib.hid ht
  rw [← ht] at HT2 hbd
  have HKD := Lib.hid hkd
  clear ht hkd
  obtain ⟨tk, tx, tw, tp⟩ := t
  simp only at hbd
  obtain ⟨tw0, tw1⟩ := hbd
  go_at_call 86
  refine (HT2.out).mono ?_
  rintro e w4 ⟨rfl, hf4, hR4⟩
  have hx := hX.out
  have hww := hw1.out
  have A4 := Lib.hid (A3.out.call hf4 hR4)
  have O4 := O3.out.fr hf4 (by omega)
  have N4 := N3.out.fr hf4 (by omega)
  have n0 : w4.cell? ⟨w1.heap.size, 0, none⟩ = some (.string dn) := by rw [cell_of_row w4 w1.heap.size 0 _ _ _ N4]; rfl
  have n1 : w4.cell? ⟨w1.heap.size, 1, none⟩ = some (.int .i64 dw) := by rw [cell_of_row w4 w1.heap.size 1 _ _ _ N4]; rfl
  have n2 : w4.frozen? ⟨w1.heap.size, 1, none⟩ = false := by simp only [World.frozen?]; unfold Own at N4; rw [N4]; rfl
  have F2 := tok_f2
  clear hf4 hR4 hx hww
  cases b with
  | false =>
    go_upto_region 8 with (fail)
    obtain ⟨W, hW⟩ : ∃ W, W = w4.setCell ⟨w1.heap.size, 1, none⟩ (.int .i64 tw) := ⟨_, rfl⟩
    rw [← hW]
    have hne : w1.heap.size ≠ w.heap.size := by have := hw1.out; omega
    have N5 : Own W w1.heap.size 71 #[.string dn, .int .i64 tw, .int .i64 dp] := by rw [hW]; exact heap_setCell_same w4 w1.heap.size 1 _ _ (.int .i64 tw) N4
    have O5 : Own W w.heap.size 71 #[.string ⟨#[]⟩, .int .i64 0, .int .i64 0] := by rw [hW]; exact O4.setX 1 _ hne
    have A5 : Hid (At c w W (k3 + 1)) := by
      rw [hW]
      have hx := hX.out
      have hww := hw1.out
      exact ⟨Keep.setCell A4.out.fr (p := ⟨w1.heap.size, 1, none⟩) _ N4 (fun hs => by have := hs.1; simp at this; omega), (Below.heap_setCell _ _ _ _ (show c.X ≠ w1.heap.size by omega)).trans A4.out.pos, A4.out.le⟩
    clear n0 n1 n2 hW hne O4 N4
    go_wp2_with (first | (refine ld rowDc rfl rfl rfl N5 rfl ?_) | (refine st rowDc rfl rfl O5 rfl rfl (by rfl) (by rfl) (by kernel_rfl) ?_))
    have hx := hX.out
    have A6 := A5.out.setRow (Nat.le_refl _) (by omega) #[.string dn, .int .i64 tw, .int .i64 dp]
    refine p_ret rowDc rfl (O5.row #[.string dn, .int .i64 tw, .int .i64 dp]) rfl rfl rfl ?_
    rw [← H3.out]
    unfold firstP.go
    rw [numP_at, if_pos HKD.out, ← HTT.out]
    exact ⟨A6.fr, _, k3 + 1, rfl, rfl, A6.rd HR.out, rfl⟩
  | true =>
    go_upto_region 8 with (fail)
    obtain ⟨W, hW⟩ : ∃ W, W = (w4.setCell ⟨w1.heap.size, 1, none⟩ (.int .i64 tw)).setCell ⟨w1.heap.size, 1, none⟩ (.int .i64 (-tw)) := ⟨_, rfl⟩
    rw [← hW]
    have hne : w1.heap.size ≠ w.heap.size := by have := hw1.out; omega
    have N5 : Own W w1.heap.size 71 #[.string dn, .int .i64 (-tw), .int .i64 dp] := by rw [hW]; exact heap_setCell_same _ w1.heap.size 1 _ _ (.int .i64 (-tw)) (heap_setCell_same w4 w1.heap.size 1 _ _ (.int .i64 tw) N4)
    have O5 : Own W w.heap.size 71 #[.string ⟨#[]⟩, .int .i64 0, .int .i64 0] := by rw [hW]; exact (O4.setX 1 _ hne).setX 1 _ hne
    have A5 : Hid (At c w W (k3 + 1)) := by
      rw [hW]
      have hx := hX.out
      have hww := hw1.out
      have N4' := heap_setCell_same w4 w1.heap.size 1 _ _ (.int .i64 tw) N4
      refine ⟨Keep.setCell (Keep.setCell A4.out.fr (p := ⟨w1.heap.size, 1, none⟩) _ N4 (fun hs => by have := hs.1; simp at this; omega)) (p := ⟨w1.heap.size, 1, none⟩) _ N4' (fun hs => by have := hs.1; simp at this; omega), ?_, A4.out.le⟩
      exact (Below.heap_setCell _ _ _ _ (show c.X ≠ w1.heap.size by omega)).trans ((Below.heap_setCell _ _ _ _ (show c.X ≠ w1.heap.size by omega)).trans A4.out.pos)
    clear n0 n1 n2 hW hne O4 N4
    go_wp2_with (first | (refine ld rowDc rfl rfl rfl N5 rfl ?_) | (refine st rowDc rfl rfl O5 rfl rfl (by rfl) (by rfl) (by kernel_rfl) ?_))
    have hx := hX.out
    have A6 := A5.out.setRow (Nat.le_refl _) (by omega) #[.string dn, .int .i64 (-tw), .int .i64 dp]
    refine p_ret rowDc rfl (O5.row #[.string dn, .int .i64 (-tw), .int .i64 dp]) rfl rfl rfl ?_
    rw [← H3.out]
    unfold firstP.go
    rw [numP_at, if_pos HKD.out, ← HTT.out]
    exact ⟨A6.fr, _, k3 + 1, rfl, rfl, A6.rd HR.out, rfl⟩
end Go.Proofs.YtjpmdafaaonpoaaDoor

namespace Go.Proofs.YtjpmdafaaonpoaaDoor
open Go.RowKit
set_option linter.unusedVariables false
theorem infoDc : (Tryd.prog.info? 71).map (fun i => (i.zero, i.size, i.bytes)) = some (some (.agg zDc), 3, 32) := by kernel_rfl
/-- Behind one item of a list. -/
def listR (L : Int) (one : List Tk → PR Dc) (m : Nat) (l : List Dc) (ts : List Tk) : PR (List Dc) := if isT [44] ts then listP L one m l ts.tail else (need L [59] ts).then fun _ r => .ok l r
theorem need_at {c : Par} {k : Nat} (s : Bs) : need c.L s (c.at k) = if isT s (c.at k) = true then .ok () (c.at (k + 1)) else .bad (hdP c.L (c.at k)) 2 := by
  unfold need
  rw [Par.at_tail]
theorem cells_three {W : World} {g : Nat} {a b d : Value} {t : TypeId} (h : Own W g t #[a, b, d]) (j : Nat) (u : Value) (hj : [a, b, d][j]? = some u) : W.cell? ((⟨g, 0, none⟩ : Addr).add j) = some u := by
  have e : (⟨g, 0, none⟩ : Addr).add j = ⟨g, j, none⟩ := by by_cases h0 : j = 0 <;> simp [Addr.add, h0]
  rw [e, cell_of_row W g j _ _ _ h, ← hj]
  have : j < 3 := (List.getElem?_eq_some_iff.1 hj).1
  have h3 : j = 0 ∨ j = 1 ∨ j = 2 := by omega
  rcases h3 with rfl | rfl | rfl <;> rfl
/-- What holds at the head of a round. -/
def LstI (c : Par) (w : World) (one : List Tk → PR Dc) (Y : PR (List Dc)) (m : Nat) (v : Value) (W : World) : Prop :=
  ∃ (j : Nat) (l : List Dc), At c w W j ∧ W.ownsRow w.heap.size 71 3 v l.length (dcsL l) ∧ l ≠ [] ∧ listR c.L one m l (c.at j) = Y ∧ (c.at j).length ≤ m ∧ l.length + (c.at j).length ≤ 65536
set_option maxRecDepth 100000 in
set_option maxHeartbeats 4000000 in
theorem p_list_name {c : Par} {w : World} {k n : Nat} (R : Rd c w k) (hn : (c.at k).length < n) : Calls Tryd.prog 71 #[c.ptr, .func (.func 69) #[c.ptr] #[]] w
    (RdPost c w (listP c.L (nameP c.L) n [] (c.at k)) (fun l v w' => w'.ownsRow w.heap.size 71 3 v l.length (dcsL l) ∧ l ≠ [])) := by
  have HK : Hid (∀ W j, Rd c W j → Calls Tryd.prog 69 #[c.ptr] W (RdPost c W (nameP c.L (c.at j)) (fun d v _ => v = dcVal d))) := fun W j RW => p_name RW
  have HP : Hid (∀ W j (s : ByteArray), Rd c W j → s.data.toList ≠ [] → Calls Tryd.prog 45 #[c.ptr, .string s] W fun e w' => e = .returned (.bool (isT s.data.toList (c.at j))) ∧ Fr c W w' ∧ Rd c w' (if isT s.data.toList (c.at j) = true then j + 1 else j)) := fun W j s RW hs => p_pass RW s hs
  have HSH : Hid (∀ ts d r, nameP c.L ts = .ok d r → r.length < ts.length) := fun ts d r h => nameP_short h
  obtain ⟨one, hone⟩ : ∃ one, one = nameP c.L := ⟨_, rfl⟩
  rw [← hone] at HK HSH ⊢
  obtain ⟨n, rfl⟩ : ∃ n', n = n' + 1 := ⟨n - 1, by omega⟩
  obtain ⟨Y0, hY0⟩ : ∃ Y0, Y0 = one (c.at k) := ⟨_, rfl⟩
  have hl0 : (c.at k).length ≤ 65536 := by rw [Par.at_len]; have := R.s.small.1; omega
  have HK0 : Hid (∀ W, Rd c W k → Calls Tryd.prog 69 #[c.ptr] W (RdPost c W Y0 (fun d v _ => v = dcVal d))) := fun W RW => by rw [hY0]; exact HK.out W k RW
  simp only [listP]
  rw [← hY0]
  have HY0 : Hid (∀ d r, Y0 = .ok d r → r.length < (c.at k).length) := fun d r h => HSH.out _ _ _ (hY0.symm.trans h)
  have A0 := Lib.hid (At.start R)
  have HR := Lib.hid R
  have hX := Lib.hid R.lt
  have HN := Lib.hid (And.intro hn hl0)
  clear hY0 R hone hn hl0
  unfold Par.ptr dcVal at *
  go_enter Tryd.func71, Tryd.ntmps71
  go_wp2_with fail
  go_at_call 69
  refine (HK0.out _ HR.out).mono ?_
  rintro e w1 ⟨hf1, hm⟩
  rcases Y0 with ⟨d0, r0⟩ | ⟨p, q⟩
  rotate_left
  · obtain rfl := hm
    have A1 := Lib.hid (A0.out.fr.trans hf1)
    clear hf1
    go_wp2_with fail
    exact ⟨rfl, A1.out, rfl⟩
  obtain ⟨v1, k1, rfl, rfl, hR1, rfl⟩ := hm
  have hlen := HY0.out _ _ rfl
  have B0 : Hid (LstI c w one (listR c.L one n ([] ++ [d0]) (c.at k1)) n (.slice (some ⟨w1.heap.size, 0, none⟩) 1 1) (w1.alloc (.cells #[.string d0.name, .int .i64 d0.wd, .int .i64 d0.pos] 71))) := by
    have hz := Keep.size hf1
    refine ⟨k1, [d0], (A0.out.call hf1 hR1).alloc _, ⟨rfl, .inr ⟨w1.heap.size, 1, _, rfl, hz, Own.new w1 _ _, Nat.le_refl _, by decide, rfl, rfl⟩⟩, by simp, rfl, by have := HN.out.1; omega, by have := HN.out.2; simp; omega⟩
  obtain ⟨Y, hY⟩ : ∃ Y, Y = listR c.L one n ([] ++ [d0]) (c.at k1) := ⟨_, rfl⟩
  rw [← hY] at B0
  have HYY := Lib.hid hY.symm
  clear hf1 hR1 hlen hY HY0 HK0
  go_wp2_with fail
  go_loopg [5] n (fun m u W => LstI c w one Y m u W)
  case atStart => exact B0.out
  case round =>
    obtain ⟨j, l, A1, hrow, hne, hL, hfu, hle⟩ := hrel
    have HA1 := Lib.hid A1
    have HROW := Lib.hid hrow
    have HNE := Lib.hid hne
    have HL := Lib.hid hL
    have HFU := Lib.hid (And.intro hfu hle)
    obtain ⟨oa, cap, rfl, hoa⟩ := row_shape hrow
    have HOA := Lib.hid hoa
    clear A1 hrow hne hL hfu hle hoa
    by_cases h1 : isT [44] (c.at j) = true
    · have hjl := Par.isT_lt h1
      have hlen1 : (c.at j).length = (c.at (j + 1)).length + 1 := by rw [at_nx hjl]; rfl
      have HLE := Lib.hid hlen1
      obtain ⟨m, rfl⟩ : ∃ m, gk = m + 1 := ⟨gk - 1, by have := HFU.out.1; omega⟩
      have hs2 : Y = (one (c.at (j + 1))).then fun d r => listR c.L one m (l ++ [d]) r := by
        rw [← HL.out]; unfold listR; rw [if_pos h1, Par.at_tail]; rfl
      obtain ⟨Z, hZ⟩ : ∃ Z, Z = one (c.at (j + 1)) := ⟨_, rfl⟩
      rw [← hZ] at hs2
      have HSP := Lib.hid hs2
      have HKZ : Hid (∀ W, Rd c W (j + 1) → Calls Tryd.prog 69 #[.pointer (some ⟨c.X, 0, none⟩)] W (RdPost c W Z (fun d v _ => v = .agg #[.string d.name, .int .i64 d.wd, .int .i64 d.pos]))) := fun W RW => by rw [hZ]; exact HK.out W (j + 1) RW
      have HZL : Hid (∀ d r, Z = .ok d r → r.length < (c.at (j + 1)).length) := fun d r h => HSH.out _ _ _ (hZ.symm.trans h)
      have H1 := Lib.hid h1
      clear h1 hjl hlen1 hs2 hZ
      go_wp2_with fail
      go_at_call 45
      refine (HP.out _ j ⟨#[44]⟩ (HA1.out.rd HR.out) (by decide)).mono ?_
      rintro e w2 ⟨he, hf2, hR2⟩
      rw [show (⟨#[44]⟩ : ByteArray).data.toList = [44] from rfl, H1.out] at he hR2
      rw [if_pos rfl] at hR2
      subst he
      have A2 := Lib.hid (HA1.out.call hf2 hR2)
      have ROW2 := Lib.hid (row_fr HROW.out hf2 hX.out)
      clear hf2 hR2
      go_wp2_with fail
      go_at_call 69
      refine (HKZ.out _ (A2.out.rd HR.out)).mono ?_
      rintro e w3 ⟨hf3, hm3⟩
      rcases Z with ⟨d2, r2⟩ | ⟨p, q⟩
      rotate_left
      · obtain rfl := hm3
        have A3 := Lib.hid (A2.out.fr.trans hf3)
        clear hf3
        go_wp2_with fail
        refine ⟨rfl, ?_⟩
        show RdPost c w (listR c.L one n ([] ++ [d0]) (c.at k1)) _ _ _
        rw [HYY.out, HSP.out]
        exact ⟨A3.out, rfl⟩
      obtain ⟨v3, k3, rfl, rfl, hR3, rfl⟩ := hm3
      have A3 := Lib.hid ((A2.out.call hf3 hR3).alloc (.cells #[.string d2.name, .int .i64 d2.wd, .int .i64 d2.pos] 71))
      have row3 := (row_fr ROW2.out hf3 hX.out).alloc (.cells #[.string d2.name, .int .i64 d2.wd, .int .i64 d2.pos] 71)
      have hz3 : w.heap.size ≤ w3.heap.size := Keep.size (A2.out.call hf3 hR3).fr
      have hl6 : l.length ≤ 65535 := by have := HFU.out.2; have := HLE.out; omega
      obtain ⟨i0, hi, hi0, hi1, hi2⟩ := info_parts infoDc
      have hk3 := Lib.hid (HZL.out _ _ rfl)
      have N3 := Own.new w3 71 #[.string d2.name, .int .i64 d2.wd, .int .i64 d2.pos]
      clear hf3 hR3
      go_wp2_with (at_builtin; refine wpList_append_own _ rfl _ _ 37 rfl w.heap.size 71 i0 _ 3 32 Tryd.underlying37 hi hi0 hi1 hi2 rfl (by decide) _ _ _ rfl row3 ⟨w3.heap.size, 0, none⟩ 1 1 [.string d2.name, .int .i64 d2.wd, .int .i64 d2.pos] rfl rfl (fun j u hj => cells_three N3 j u hj) (by simp [Value.oneCell']) (by simp only [maxLen]; omega) (by omega) (by simp; omega) ?_; intro v' w4 hown' hgrow _; have ROW4 := Lib.hid hown'; have GR := Lib.hid hgrow; clear hown' hgrow)
      go_roundg m
      case measure => omega
      case rel =>
        have hx := hX.out
        refine ⟨k3, l ++ [d2], grown_fr A3.out GR.out (fun r hr => ?_), ?_, by simp, HSP.out.symm, by have := HFU.out.1; have := hk3.out; have := HLE.out; omega, by have := HFU.out.2; have := hk3.out; have := HLE.out; simp; omega⟩
        · have h2 := (row3.lt r hr).1
          exact ⟨h2, by omega⟩
        · have := ROW4.out
          rw [dcsL_snoc, List.length_append]
          exact this
    · have h1' : isT [44] (c.at j) = false := by simpa using h1
      have hs2 : Y = (need c.L [59] (c.at j)).then fun _ r => .ok l r := by rw [← HL.out]; unfold listR; rw [h1']; rfl
      have HSP := Lib.hid hs2
      have H1 := Lib.hid h1'
      clear h1 h1' hs2
      go_wp2_with fail
      go_at_call 45
      refine (HP.out _ j ⟨#[44]⟩ (HA1.out.rd HR.out) (by decide)).mono ?_
      rintro e w2 ⟨he, hf2, hR2⟩
      rw [show (⟨#[44]⟩ : ByteArray).data.toList = [44] from rfl, H1.out] at he hR2
      rw [if_neg (by simp)] at hR2
      subst he
      have A2 := Lib.hid (HA1.out.call hf2 hR2)
      have ROW2 := Lib.hid (row_fr HROW.out hf2 hX.out)
      clear hf2 hR2
      go_wp2_with fail
      by_cases h2 : isT [59] (c.at j) = true
      · go_at_call 88
        refine (p_take_ok (A2.out.rd HR.out) ⟨#[59]⟩ (by decide) h2).mono ?_
        rintro e w3 ⟨rfl, hf3, hR3⟩
        have A3 := Lib.hid (A2.out.call hf3 hR3)
        have ROW3 := Lib.hid (row_fr ROW2.out hf3 hX.out)
        have H2 := Lib.hid h2
        clear hf3 hR3 h2
        go_wp2_with fail
        go_ret
        show RdPost c w (listR c.L one n ([] ++ [d0]) (c.at k1)) _ _ _
        rw [HYY.out, HSP.out, need_at, if_pos H2.out]
        exact ⟨A3.out.fr, _, j + 1, rfl, ⟨ROW3.out, HNE.out⟩, A3.out.rd HR.out, rfl⟩
      · have h2' : isT [59] (c.at j) = false := by simpa using h2
        go_at_call 88
        refine (p_take_bad (A2.out.rd HR.out) ⟨#[59]⟩ (by decide) h2').mono ?_
        rintro e w3 ⟨rfl, hf3⟩
        have A3 := Lib.hid (A2.out.fr.trans hf3)
        have H2 := Lib.hid h2'
        clear hf3 h2 h2'
        go_wp2_with fail
        refine ⟨rfl, ?_⟩
        show RdPost c w (listR c.L one n ([] ++ [d0]) (c.at k1)) _ _ _
        rw [HYY.out, HSP.out, need_at, H2.out]
        exact ⟨A3.out, rfl⟩
set_option maxRecDepth 100000 in
set_option maxHeartbeats 4000000 in
theorem p_list_first {c : Par} {w : World} {k n : Nat} (R : Rd c w k) (hn : (c.at k).length < n) : Calls Tryd.prog 71 #[c.ptr, .func (.func 83) #[c.ptr] #[]] w
    (RdPost c w (listP c.L (firstP c.L) n [] (c.at k)) (fun l v w' => w'.ownsRow w.heap.size 71 3 v l.length (dcsL l) ∧ l ≠ [])) := by
  have HK : Hid (∀ W j, Rd c W j → Calls Tryd.prog 83 #[c.ptr] W (RdPost c W (firstP c.L (c.at j)) (fun d v _ => v = dcVal d))) := fun W j RW => p_first RW
  have HP : Hid (∀ W j (s : ByteArray), Rd c W j → s.data.toList ≠ [] → Calls Tryd.prog 45 #[c.ptr, .string s] W fun e w' => e = .returned (.bool (isT s.data.toList (c.at j))) ∧ Fr c W w' ∧ Rd c w' (if isT s.data.toList (c.at j) = true then j + 1 else j)) := fun W j s RW hs => p_pass RW s hs
  have HSH : Hid (∀ ts d r, firstP c.L ts = .ok d r → r.length < ts.length) := fun ts d r h => firstP_short h
  obtain ⟨one, hone⟩ : ∃ one, one = firstP c.L := ⟨_, rfl⟩
  rw [← hone] at HK HSH ⊢
  obtain ⟨n, rfl⟩ : ∃ n', n = n' + 1 := ⟨n - 1, by omega⟩
  obtain ⟨Y0, hY0⟩ : ∃ Y0, Y0 = one (c.at k) := ⟨_, rfl⟩
  have hl0 : (c.at k).length ≤ 65536 := by rw [Par.at_len]; have := R.s.small.1; omega
  have HK0 : Hid (∀ W, Rd c W k → Calls Tryd.prog 83 #[c.ptr] W (RdPost c W Y0 (fun d v _ => v = dcVal d))) := fun W RW => by rw [hY0]; exact HK.out W k RW
  simp only [listP]
  rw [← hY0]
  have HY0 : Hid (∀ d r, Y0 = .ok d r → r.length < (c.at k).length) := fun d r h => HSH.out _ _ _ (hY0.symm.trans h)
  have A0 := Lib.hid (At.start R)
  have HR := Lib.hid R
  have hX := Lib.hid R.lt
  have HN := Lib.hid (And.intro hn hl0)
  clear hY0 R hone hn hl0
  unfold Par.ptr dcVal at *
  go_enter Tryd.func71, Tryd.ntmps71
  go_wp2_with fail
  go_at_call 83
  refine (HK0.out _ HR.out).mono ?_
  rintro e w1 ⟨hf1, hm⟩
  rcases Y0 with ⟨d0, r0⟩ | ⟨p, q⟩
  rotate_left
  · obtain rfl := hm
    have A1 := Lib.hid (A0.out.fr.trans hf1)
    clear hf1
    go_wp2_with fail
    exact ⟨rfl, A1.out, rfl⟩
  obtain ⟨v1, k1, rfl, rfl, hR1, rfl⟩ := hm
  have hlen := HY0.out _ _ rfl
  have B0 : Hid (LstI c w one (listR c.L one n ([] ++ [d0]) (c.at k1)) n (.slice (some ⟨w1.heap.size, 0, none⟩) 1 1) (w1.alloc (.cells #[.string d0.name, .int .i64 d0.wd, .int .i64 d0.pos] 71))) := by
    have hz := Keep.size hf1
    refine ⟨k1, [d0], (A0.out.call hf1 hR1).alloc _, ⟨rfl, .inr ⟨w1.heap.size, 1, _, rfl, hz, Own.new w1 _ _, Nat.le_refl _, by decide, rfl, rfl⟩⟩, by simp, rfl, by have := HN.out.1; omega, by have := HN.out.2; simp; omega⟩
  obtain ⟨Y, hY⟩ : ∃ Y, Y = listR c.L one n ([] ++ [d0]) (c.at k1) := ⟨_, rfl⟩
  rw [← hY] at B0
  have HYY := Lib.hid hY.symm
  clear hf1 hR1 hlen hY HY0 HK0
  go_wp2_with fail
  go_loopg [5] n (fun m u W => LstI c w one Y m u W)
  case atStart => exact B0.out
  case round =>
    obtain ⟨j, l, A1, hrow, hne, hL, hfu, hle⟩ := hrel
    have HA1 := Lib.hid A1
    have HROW := Lib.hid hrow
    have HNE := Lib.hid hne
    have HL := Lib.hid hL
    have HFU := Lib.hid (And.intro hfu hle)
    obtain ⟨oa, cap, rfl, hoa⟩ := row_shape hrow
    have HOA := Lib.hid hoa
    clear A1 hrow hne hL hfu hle hoa
    by_cases h1 : isT [44] (c.at j) = true
    · have hjl := Par.isT_lt h1
      have hlen1 : (c.at j).length = (c.at (j + 1)).length + 1 := by rw [at_nx hjl]; rfl
      have HLE := Lib.hid hlen1
      obtain ⟨m, rfl⟩ : ∃ m, gk = m + 1 := ⟨gk - 1, by have := HFU.out.1; omega⟩
      have hs2 : Y = (one (c.at (j + 1))).then fun d r => listR c.L one m (l ++ [d]) r := by
        rw [← HL.out]; unfold listR; rw [if_pos h1, Par.at_tail]; rfl
      obtain ⟨Z, hZ⟩ : ∃ Z, Z = one (c.at (j + 1)) := ⟨_, rfl⟩
      rw [← hZ] at hs2
      have HSP := Lib.hid hs2
      have HKZ : Hid (∀ W, Rd c W (j + 1) → Calls Tryd.prog 83 #[.pointer (some ⟨c.X, 0, none⟩)] W (RdPost c W Z (fun d v _ => v = .agg #[.string d.name, .int .i64 d.wd, .int .i64 d.pos]))) := fun W RW => by rw [hZ]; exact HK.out W (j + 1) RW
      have HZL : Hid (∀ d r, Z = .ok d r → r.length < (c.at (j + 1)).length) := fun d r h => HSH.out _ _ _ (hZ.symm.trans h)
      have H1 := Lib.hid h1
      clear h1 hjl hlen1 hs2 hZ
      go_wp2_with fail
      go_at_call 45
      refine (HP.out _ j ⟨#[44]⟩ (HA1.out.rd HR.out) (by decide)).mono ?_
      rintro e w2 ⟨he, hf2, hR2⟩
      rw [show (⟨#[44]⟩ : ByteArray).data.toList = [44] from rfl, H1.out] at he hR2
      rw [if_pos rfl] at hR2
      subst he
      have A2 := Lib.hid (HA1.out.call hf2 hR2)
      have ROW2 := Lib.hid (row_fr HROW.out hf2 hX.out)
      clear hf2 hR2
      go_wp2_with fail
      go_at_call 83
      refine (HKZ.out _ (A2.out.rd HR.out)).mono ?_
      rintro e w3 ⟨hf3, hm3⟩
      rcases Z with ⟨d2, r2⟩ | ⟨p, q⟩
      rotate_left
      · obtain rfl := hm3
        have A3 := Lib.hid (A2.out.fr.trans hf3)
        clear hf3
        go_wp2_with fail
        refine ⟨rfl, ?_⟩
        show RdPost c w (listR c.L one n ([] ++ [d0]) (c.at k1)) _ _ _
        rw [HYY.out, HSP.out]
        exact ⟨A3.out, rfl⟩
      obtain ⟨v3, k3, rfl, rfl, hR3, rfl⟩ := hm3
      have A3 := Lib.hid ((A2.out.call hf3 hR3).alloc (.cells #[.string d2.name, .int .i64 d2.wd, .int .i64 d2.pos] 71))
      have row3 := (row_fr ROW2.out hf3 hX.out).alloc (.cells #[.string d2.name, .int .i64 d2.wd, .int .i64 d2.pos] 71)
      have hz3 : w.heap.size ≤ w3.heap.size := Keep.size (A2.out.call hf3 hR3).fr
      have hl6 : l.length ≤ 65535 := by have := HFU.out.2; have := HLE.out; omega
      obtain ⟨i0, hi, hi0, hi1, hi2⟩ := info_parts infoDc
      have hk3 := Lib.hid (HZL.out _ _ rfl)
      have N3 := Own.new w3 71 #[.string d2.name, .int .i64 d2.wd, .int .i64 d2.pos]
      clear hf3 hR3
      go_wp2_with (at_builtin; refine wpList_append_own _ rfl _ _ 37 rfl w.heap.size 71 i0 _ 3 32 Tryd.underlying37 hi hi0 hi1 hi2 rfl (by decide) _ _ _ rfl row3 ⟨w3.heap.size, 0, none⟩ 1 1 [.string d2.name, .int .i64 d2.wd, .int .i64 d2.pos] rfl rfl (fun j u hj => cells_three N3 j u hj) (by simp [Value.oneCell']) (by simp only [maxLen]; omega) (by omega) (by simp; omega) ?_; intro v' w4 hown' hgrow _; have ROW4 := Lib.hid hown'; have GR := Lib.hid hgrow; clear hown' hgrow)
      go_roundg m
      case measure => omega
      case rel =>
        have hx := hX.out
        refine ⟨k3, l ++ [d2], grown_fr A3.out GR.out (fun r hr => ?_), ?_, by simp, HSP.out.symm, by have := HFU.out.1; have := hk3.out; have := HLE.out; omega, by have := HFU.out.2; have := hk3.out; have := HLE.out; simp; omega⟩
        · have h2 := (row3.lt r hr).1
          exact ⟨h2, by omega⟩
        · have := ROW4.out
          rw [dcsL_snoc, List.length_append]
          exact this
    · have h1' : isT [44] (c.at j) = false := by simpa using h1
      have hs2 : Y = (need c.L [59] (c.at j)).then fun _ r => .ok l r := by rw [← HL.out]; unfold listR; rw [h1']; rfl
      have HSP := Lib.hid hs2
      have H1 := Lib.hid h1'
      clear h1 h1' hs2
      go_wp2_with fail
      go_at_call 45
      refine (HP.out _ j ⟨#[44]⟩ (HA1.out.rd HR.out) (by decide)).mono ?_
      rintro e w2 ⟨he, hf2, hR2⟩
      rw [show (⟨#[44]⟩ : ByteArray).data.toList = [44] from rfl, H1.out] at he hR2
      rw [if_neg (by simp)] at hR2
      subst he
      have A2 := Lib.hid (HA1.out.call hf2 hR2)
      have ROW2 := Lib.hid (row_fr HROW.out hf2 hX.out)
      clear hf2 hR2
      go_wp2_with fail
      by_cases h2 : isT [59] (c.at j) = true
      · go_at_call 88
        refine (p_take_ok (A2.out.rd HR.out) ⟨#[59]⟩ (by decide) h2).mono ?_
        rintro e w3 ⟨rfl, hf3, hR3⟩
        have A3 := Lib.hid (A2.out.call hf3 hR3)
        have ROW3 := Lib.hid (row_fr ROW2.out hf3 hX.out)
        have H2 := Lib.hid h2
        clear hf3 hR3 h2
        go_wp2_with fail
        go_ret
        show RdPost c w (listR c.L one n ([] ++ [d0]) (c.at k1)) _ _ _
        rw [HYY.out, HSP.out, need_at, if_pos H2.out]
        exact ⟨A3.out.fr, _, j + 1, rfl, ⟨ROW3.out, HNE.out⟩, A3.out.rd HR.out, rfl⟩
      · have h2' : isT [59] (c.at j) = false := by simpa using h2
        go_at_call 88
        refine (p_take_bad (A2.out.rd HR.out) ⟨#[59]⟩ (by decide) h2').mono ?_
        rintro e w3 ⟨rfl, hf3⟩
        have A3 := Lib.hid (A2.out.fr.trans hf3)
        have H2 := Lib.hid h2'
        clear hf3 h2 h2'
        go_wp2_with fail
        refine ⟨rfl, ?_⟩
        show RdPost c w (listR c.L one n ([] ++ [d0]) (c.at k1)) _ _ _
        rw [HYY.out, HSP.out, need_at, H2.out]
        exact ⟨A3.out, rfl⟩
end Go.Proofs.YtjpmdafaaonpoaaDoor

namespace Go.Proofs.YtjpmdafaaonpoaaDoor
open Go.RowKit
set_option linter.unusedVariables false
theorem setCell_row {W : World} {g : Nat} {t : TypeId} {cs : Array Value} (h : Own W g t cs) (j : Nat) (v : Value) : W.setCell ⟨g, j, none⟩ v = W.setRow g (cs.setIfInBounds j v) := by
  have key : (W.setCell ⟨g, j, none⟩ v).heap = (W.setRow g (cs.setIfInBounds j v)).heap := by
    apply Array.ext_getElem?
    intro i
    by_cases hi : i = g
    · subst hi
      rw [heap_setCell_same W i j _ _ v h, setRow_heap W i _ _ _ _ h]
    · rw [Below.heap_setCell W ⟨g, j, none⟩ v i hi, setRow_other _ hi]
  exact congrArg (fun h => ({ W with heap := h } : World)) key
/-- A statement, as a value: its place is p; its parts lie in blocks from n on. -/
def stR (n : Nat) (p : Int) (s : St) (v : Value) (W : World) : Prop :=
  ∃ a3 c3 a4 c4 a5 c5, v = .agg #[.int .u8 s.kind, .string s.name, .string s.other, .slice a3 s.e.length c3, .slice a4 s.body.length c4, .slice a5 s.els.length c5, .int .i64 p] ∧ exsAt (fun b => n ≤ b) W s.e a3 ∧ stsAt (fun b => n ≤ b) W s.body a4 ∧ stsAt (fun b => n ≤ b) W s.els a5
def exsVal (n : Nat) (l : List Ex) (v : Value) (W : World) : Prop := ∃ a cap, v = .slice a l.length cap ∧ exsAt (fun b => n ≤ b) W l a
def stsVal (n : Nat) (l : List St) (v : Value) (W : World) : Prop := ∃ a cap, v = .slice a l.length cap ∧ stsAt (fun b => n ≤ b) W l a
theorem stsAt_mono {R R' : Nat → Prop} {w : World} {l : List St} {a : Option Addr} (h : stsAt R w l a) (hm : ∀ b, R b → R' b) : stsAt R' w l a := stsAt_stays (Stays.refl R w) hm h
/-- Within a function that makes a statement: a token's box, the result's block, the statement's block. -/
structure StG (c : Par) (w : World) (t : Tk) (cs : Array Value) (W : World) (j : Nat) : Prop where
  run : At c w W j
  tok : Own W w.heap.size 49 #[.int .u8 t.kind, .string t.text, .int .i64 t.wd, .int .i64 t.pos]
  res : Own W (w.heap.size + 1) 74 zSt
  st : Own W (w.heap.size + 1 + 1) 74 cs
section
variable {c : Par} {w W W' : World} {t : Tk} {cs : Array Value} {j k2 : Nat}
theorem StG.start {k : Nat} (R : Rd c w k) (t : Tk) (cs : Array Value) : StG c w t cs (((w.alloc (.cells #[.int .u8 t.kind, .string t.text, .int .i64 t.wd, .int .i64 t.pos] 49)).alloc (.cells zSt 74)).alloc (.cells cs 74)) k := by
  have o1 := Own.new (w.alloc (.cells #[.int .u8 t.kind, .string t.text, .int .i64 t.wd, .int .i64 t.pos] 49)) 74 zSt
  have o2 := Own.new ((w.alloc (.cells #[.int .u8 t.kind, .string t.text, .int .i64 t.wd, .int .i64 t.pos] 49)).alloc (.cells zSt 74)) 74 cs
  rw [World.size_alloc] at o1 o2
  rw [World.size_alloc] at o2
  exact ⟨(((At.start R).alloc _).alloc _).alloc _, ((Own.new w _ _).alloc _).alloc _, o1.alloc _, o2⟩
theorem StG.call (h : StG c w t cs W j) (hf : Fr c W W') (hp : Rd c W' k2) (hX : c.X < w.heap.size) : StG c w t cs W' k2 :=
  ⟨h.run.call hf hp, h.tok.fr hf (by omega), h.res.fr hf (by omega), h.st.fr hf (by omega)⟩
theorem StG.row (h : StG c w t cs W j) (ds : Array Value) (hX : c.X < w.heap.size) : StG c w t ds (W.setRow (w.heap.size + 1 + 1) ds) j :=
  ⟨h.run.setRow (by omega) (by omega) ds, h.tok.other ds (by omega), h.res.other ds (by omega), h.st.row ds⟩
theorem StG.cell (h : StG c w t cs W j) {i : Nat} {v : Value} (hv : cs[i]? = some v) : W.cell? ⟨w.heap.size + 1 + 1, i, none⟩ = some v := by rw [cell_of_row W _ i _ _ _ h.st]; exact hv
theorem StG.frozen (h : StG c w t cs W j) (i : Nat) : W.frozen? ⟨w.heap.size + 1 + 1, i, none⟩ = false := by
  have := h.st
  unfold Own at this
  simp only [World.frozen?, this]; rfl
end
theorem exsAt_call {c : Par} {W W' : World} {n : Nat} {l : List Ex} {a : Option Addr} (h : exsAt (fun b => n ≤ b) W l a) (hf : Fr c W W') (hX : c.X < n) : exsAt (fun b => n ≤ b) W' l a := exsAt_stays (stays_fr hf (fun b hb => by omega)) (fun b hb => hb) h
theorem stsAt_call {c : Par} {W W' : World} {n : Nat} {l : List St} {a : Option Addr} (h : stsAt (fun b => n ≤ b) W l a) (hf : Fr c W W') (hX : c.X < n) : stsAt (fun b => n ≤ b) W' l a := stsAt_stays (stays_fr hf (fun b hb => by omega)) (fun b hb => hb) h
theorem exsAt_row {W : World} {n g : Nat} {l : List Ex} {a : Option Addr} (h : exsAt (fun b => n ≤ b) W l a) (cs : Array Value) (hg : g < n) : exsAt (fun b => n ≤ b) (W.setRow g cs) l a := exsAt_stays (stays_row W cs (fun b hb => by omega)) (fun b hb => hb) h
theorem stsAt_row {W : World} {n g : Nat} {l : List St} {a : Option Addr} (h : stsAt (fun b => n ≤ b) W l a) (cs : Array Value) (hg : g < n) : stsAt (fun b => n ≤ b) (W.setRow g cs) l a := stsAt_stays (stays_row W cs (fun b hb => by omega)) (fun b hb => hb) h
/-- A value: an expression alone in a list. -/
theorem p_value {c : Par} {w : World} {k n : Nat} (R : Rd c w k) (hn : 3 * (c.at k).length + 2 ≤ n) :
    Calls Tryd.prog 87 #[c.ptr] w (RdPost c w (binE fnd c.L n 1 0 (c.at k)) (fun e v w' => exsVal w.heap.size [e] v w')) := by
  have HC : Hid (∀ W, Rd c W k → Calls Tryd.prog 20 #[c.ptr] W (RdPost c W (binE fnd c.L n 1 0 (c.at k)) (exR W.heap.size))) := fun W RW => p_expression RW hn
  obtain ⟨Y, hY⟩ : ∃ Y, Y = binE fnd c.L n 1 0 (c.at k) := ⟨_, rfl⟩
  rw [← hY] at HC ⊢
  have HR := Lib.hid R
  clear hY R hn
  unfold Par.ptr at *
  go_enter Tryd.func87, Tryd.ntmps87
  go_wp2_with fail
  go_at_call 20
  refine (HC.out _ HR.out).mono ?_
  rintro e w1 ⟨hf1, hm⟩
  rcases Y with ⟨e0, r0⟩ | ⟨p, q⟩
  rotate_left
  · obtain rfl := hm
    have A1 := Lib.hid hf1
    clear hf1
    go_wp2_with fail
    exact ⟨rfl, A1.out, rfl⟩
  obtain ⟨v1, k1, rfl, ⟨a4, cap4, rfl, hV⟩, hR1, rfl⟩ := hm
  have A1 := Lib.hid (((At.start HR.out).call hf1 hR1).alloc (.cells #[.int .u8 e0.kind, .int .u8 e0.op, .int .i64 e0.wd, .string e0.name, .slice a4 e0.kids.length cap4, .int .i64 e0.pos] 26))
  have N1 := Lib.hid (Own.new w1 26 #[.int .u8 e0.kind, .int .u8 e0.op, .int .i64 e0.wd, .string e0.name, .slice a4 e0.kids.length cap4, .int .i64 e0.pos])
  have HV := Lib.hid (exsAt_stays (stays_alloc _ w1 (.cells #[.int .u8 e0.kind, .int .u8 e0.op, .int .i64 e0.wd, .string e0.name, .slice a4 e0.kids.length cap4, .int .i64 e0.pos] 26)) (fun b hb => hb) hV)
  have hz := Lib.hid (Keep.size hf1)
  clear hf1 hV hR1
  go_wp2_with fail
  go_ret
  refine ⟨A1.out.fr, _, k1, rfl, ⟨_, _, rfl, .inr ⟨w1.heap.size, 0, rfl, hz.out, exIn_of (vs := exCells e0 a4 cap4) ⟨a4, cap4, rfl, HV.out⟩ ?_, trivial⟩⟩, A1.out.rd HR.out, rfl⟩
  intro q u hq
  have hq6 : q < 6 := (List.getElem?_eq_some_iff.1 hq).1
  rw [cell_of_row _ w1.heap.size (0 + q) _ _ _ N1.out, ← hq]
  have : q = 0 ∨ q = 1 ∨ q = 2 ∨ q = 3 ∨ q = 4 ∨ q = 5 := by omega
  rcases this with rfl | rfl | rfl | rfl | rfl | rfl <;> rfl
set_option maxRecDepth 100000 in
set_option maxHeartbeats 1000000 in
theorem p_open {c : Par} {w : World} {k : Nat} (R : Rd c w k) (d : Int) : Calls Tryd.prog 70 #[c.ptr, .int .i64 d] w (RdPost c w (openP c.L d (c.at k)) (fun _ v _ => v = .tuple #[])) := by
  have HN : Hid (∀ W, Rd c W k → Calls Tryd.prog 44 #[c.ptr] W fun e w' => e = .returned (tkV (c.nx k)) ∧ Below W.heap.size W w') := fun W h => p_next h
  have hp := c.nx_pos k
  obtain ⟨t, ht⟩ : ∃ t, t = c.nx k := ⟨_, rfl⟩
  rw [← ht] at HN hp
  have HP := Lib.hid hp
  have HR := Lib.hid R
  have hX := Lib.hid R.lt
  have HQ := Lib.hid (fun w => p_refuse t 3 w)
  unfold openP
  rw [need_at]
  obtain ⟨tk, tx, tw, tp⟩ := t
  clear ht hp R
  unfold tkV Par.ptr at *
  by_cases h1 : isT [123] (c.at k) = true
  · rw [if_pos h1]
    simp only [PR.then_ok]
    have H1 := Lib.hid h1
    by_cases hd : 64 < d
    · rw [if_pos hd]
      clear h1
      go_enter Tryd.func70, Tryd.ntmps70
      go_wp2_with fail
      go_at_call 44
      refine (HN.out _ HR.out).mono ?_
      rintro e w1 ⟨rfl, hb⟩
      have A1 := Lib.hid (((At.start HR.out).below hb).alloc (.cells #[.int .u8 tk, .string tx, .int .i64 tw, .int .i64 tp] 49))
      have N1 := Lib.hid (Own.new w1 49 #[.int .u8 tk, .string tx, .int .i64 tw, .int .i64 tp])
      have hz := Lib.hid hb.size
      clear hb
      go_wp2_with fail
      go_at_call 88
      refine (p_take_ok (A1.out.rd HR.out) ⟨#[123]⟩ (by decide) H1.out).mono ?_
      rintro e w2 ⟨rfl, hf2, hR2⟩
      have A2 := Lib.hid (A1.out.call hf2 hR2)
      have N2 := N1.out.fr hf2 (by have := hX.out; have := hz.out; omega)
      clear hf2 hR2
      go_wp2_with (first | (refine ld rowTok rfl rfl rfl N2 rfl ?_) | (go_at_call 61; refine (HQ.out _).mono ?_; rintro e w3 ⟨rfl, hb⟩; have HC := Lib.hid hb; clear hb))
      refine ⟨rfl, A2.out.fr.trans (.of_below HC.out), ?_⟩
      rw [← HP.out]
    · rw [if_neg hd]
      have hd' : d ≤ 64 := by omega
      clear h1 hd
      go_enter Tryd.func70, Tryd.ntmps70
      go_wp2_with fail
      go_at_call 44
      refine (HN.out _ HR.out).mono ?_
      rintro e w1 ⟨rfl, hb⟩
      have A1 := Lib.hid (((At.start HR.out).below hb).alloc (.cells #[.int .u8 tk, .string tx, .int .i64 tw, .int .i64 tp] 49))
      clear hb
      go_wp2_with fail
      go_at_call 88
      refine (p_take_ok (A1.out.rd HR.out) ⟨#[123]⟩ (by decide) H1.out).mono ?_
      rintro e w2 ⟨rfl, hf2, hR2⟩
      have A2 := Lib.hid (A1.out.call hf2 hR2)
      clear hf2 hR2
      go_wp2_with fail
      go_end0
      exact ⟨A2.out.fr, _, k + 1, rfl, rfl, A2.out.rd HR.out, rfl⟩
  · have h1' : isT [123] (c.at k) = false := by simpa using h1
    rw [if_neg h1]
    simp only [PR.then_bad]
    have H1 := Lib.hid h1'
    clear h1 h1'
    go_enter Tryd.func70, Tryd.ntmps70
    go_wp2_with fail
    go_at_call 44
    refine (HN.out _ HR.out).mono ?_
    rintro e w1 ⟨rfl, hb⟩
    have A1 := Lib.hid (((At.start HR.out).below hb).alloc (.cells #[.int .u8 tk, .string tx, .int .i64 tw, .int .i64 tp] 49))
    clear hb
    go_wp2_with fail
    go_at_call 88
    refine (p_take_bad (A1.out.rd HR.out) ⟨#[123]⟩ (by decide) H1.out).mono ?_
    rintro e w2 ⟨rfl, hf2⟩
    have A2 := Lib.hid (A1.out.fr.trans hf2)
    clear hf2
    go_wp2_with fail
    exact ⟨rfl, A2.out, rfl⟩
end Go.Proofs.YtjpmdafaaonpoaaDoor

namespace Go.Proofs.YtjpmdafaaonpoaaDoor
open Go.RowKit
set_option linter.unusedVariables false
theorem at_step {c : Par} {k : Nat} (h : k < c.toks.length) : (c.at (k + 1)).length < (c.at k).length := by rw [at_nx h]; simp
/-- A block with its braces. -/
def blkP (L : Int) (m : Nat) (d : Int) (ts : List Tk) : PR (List St) := (openP L d ts).then fun _ r => restP fnd L m d [] r
theorem blkP_short {L : Int} {m : Nat} {d : Int} {ts : List Tk} {l : List St} {r : List Tk} (h : blkP L m d ts = .ok l r) : r.length < ts.length := by
  obtain ⟨u, q, h1, h2⟩ := PR.then_eq_ok h
  have := open_short h1
  have := restP_short h2
  omega
theorem blk_then {L : Int} {m : Nat} {d : Int} {β : Type} (ts : List Tk) (f : List St → List Tk → PR β) (_ : Unit) (_ : Unit) : ((openP L d ts).then fun _ r => (restP fnd L m d [] r).then f) = (blkP L m d ts).then f := by
  unfold blkP
  cases openP L d ts <;> rfl
/-- The contract of block. -/
def BlkC (m : Nat) : Prop := ∀ (c : Par) (w : World) (k : Nat) (d : Int), Rd c w k → 0 ≤ d → d ≤ 65 → 3 * (c.at k).length + 2 ≤ m →
  Calls Tryd.prog 85 #[c.ptr, .int .i64 d] w (RdPost c w (blkP c.L m d (c.at k)) (fun l v w' => stsVal w.heap.size l v w'))

set_option maxRecDepth 100000 in
set_option maxHeartbeats 4000000 in
theorem m_print {m : Nat} {c : Par} {w : World} {k : Nat} (R : Rd c w k) (t : Tk) (d : Int) (hd0 : 0 ≤ d) (hd1 : d ≤ 64) (hm : 3 * (c.at k).length + 3 ≤ m) :
    Calls Tryd.prog 57 #[c.ptr, tkV t, .int .i64 d] w (RdPost c w ((binE fnd c.L m 1 0 (c.at k)).then fun e r => (need c.L [59] r).then fun _ r => .ok (St.mk 6 ⟨#[]⟩ ⟨#[]⟩ [e] [] [] t.pos) r) (fun s v w' => s.pos = t.pos ∧ stR w.heap.size 0 s v w')) := by
  obtain ⟨tk, tx, tw, tp⟩ := t
  obtain ⟨Y, hY⟩ : ∃ Y, Y = (binE fnd c.L m 1 0 (c.at k)).then fun e r => (need c.L [59] r).then fun _ r => .ok (St.mk 6 ⟨#[]⟩ ⟨#[]⟩ [e] [] [] tp) r := ⟨_, rfl⟩
  have HS := Lib.hid hY
  change Calls _ _ _ _ (RdPost c w ((binE fnd c.L m 1 0 (c.at k)).then fun e r => (need c.L [59] r).then fun _ r => .ok (St.mk 6 ⟨#[]⟩ ⟨#[]⟩ [e] [] [] tp) r) _)
  rw [← hY]
  have HR := Lib.hid R
  have hX := Lib.hid R.lt
  have HM := Lib.hid hm
  have G := Lib.hid (StG.start R ⟨tk, tx, tw, tp⟩ #[.int .u8 6, .string ⟨#[]⟩, .string ⟨#[]⟩, .slice none 0 0, .slice none 0 0, .slice none 0 0, .int .i64 0])
  clear hY R hm
  unfold tkV Par.ptr zSt at *
  go_enter Tryd.func57, Tryd.ntmps57
  go_wp2_with fail
  obtain ⟨Z1, hZ1⟩ : ∃ Z1, Z1 = binE fnd c.L m 1 0 (c.at k) := ⟨_, rfl⟩
  have HC1 : Hid (∀ W, Rd c W k → Calls Tryd.prog 87 #[.pointer (some ⟨c.X, 0, none⟩)] W (RdPost c W Z1 (fun e v w' => exsVal W.heap.size [e] v w'))) := fun W RW => by rw [hZ1]; exact p_value RW (by have := HM.out; skip; omega)
  have HSH1 : Hid (∀ e r, Z1 = .ok e r → r.length < (c.at k).length) := fun e r h => binE_short (hZ1.symm.trans h)
  have HS : Hid (Y = Z1.then fun e r => (need c.L [59] r).then fun _ r => .ok (St.mk 6 ⟨#[]⟩ ⟨#[]⟩ [e] [] [] tp) r) := by first | (rw [Hid, HS.out, hZ1]; done) | (rw [Hid, HS.out, hZ1]; rfl) | (rw [Hid, HS.out, hZ1]; unfold parenP; rfl)
  clear hZ1
  go_at_call 87
  refine (HC1.out _ (G.out.run.rd HR.out)).mono ?_
  rintro e w1 ⟨hf1, hm1⟩
  rcases Z1 with ⟨e1, r1⟩ | ⟨p, q⟩
  rotate_left
  · obtain rfl := hm1
    have HS2 := HS
    have AZ := Lib.hid (G.out.run.fr.trans hf1)
    clear hf1
    go_wp2_with fail
    refine ⟨rfl, ?_⟩
    rw [HS2.out]
    exact ⟨AZ.out, rfl⟩
  obtain ⟨v1, j1, rfl, ⟨a1, cap1, rfl, hV1⟩, hR1, rfl⟩ := hm1
  have HS : Hid (Y = (need c.L [59] (c.at j1)).then fun _ r => .ok (St.mk 6 ⟨#[]⟩ ⟨#[]⟩ [e1] [] [] tp) r) := HS.out
  have HL1 := Lib.hid (HSH1.out _ _ rfl)
  have V1 : Hid (exsAt (fun b => w.heap.size + 1 + 1 + 1 ≤ b) w1 [e1] a1) := Lib.hid (exsAt_mono hV1 (fun b hb => by have := G.out.st.lt; change _ ≤ _ at hb; omega))
  have G := Lib.hid (G.out.call hf1 hR1 hX.out)
  clear hf1 hR1 hV1
  have c3 := G.out.cell (i := 3) (v := .slice none 0 0) rfl
  have z3 := G.out.frozen 3
  go_wp2_with fail
  rw [show w1.setCell ⟨w.heap.size + 1 + 1, 3, none⟩ (.slice a1 1 cap1) = w1.setRow (w.heap.size + 1 + 1) #[.int .u8 6, .string ⟨#[]⟩, .string ⟨#[]⟩, .slice a1 1 cap1, .slice none 0 0, .slice none 0 0, .int .i64 0] from setCell_row G.out.st 3 _]
  have V1 := Lib.hid (exsAt_row V1.out #[.int .u8 6, .string ⟨#[]⟩, .string ⟨#[]⟩, .slice a1 1 cap1, .slice none 0 0, .slice none 0 0, .int .i64 0] (g := w.heap.size + 1 + 1) (by omega))
  have G := Lib.hid (G.out.row #[.int .u8 6, .string ⟨#[]⟩, .string ⟨#[]⟩, .slice a1 1 cap1, .slice none 0 0, .slice none 0 0, .int .i64 0] hX.out)
  clear c3 z3
  by_cases q2 : isT [59] (c.at (j1)) = true
  rotate_left
  · have q2' : isT [59] (c.at (j1)) = false := by simpa using q2
    go_at_call 88
    refine (p_take_bad (G.out.run.rd HR.out) ⟨#[59]⟩ (by decide) q2').mono ?_
    rintro e w2 ⟨rfl, hf2⟩
    have HS2 := HS.out
    rw [need_at, q2'] at HS2
    have HS2 := Lib.hid HS2
    clear q2 q2'
    have AZ := Lib.hid (G.out.run.fr.trans hf2)
    clear hf2
    go_wp2_with fail
    refine ⟨rfl, ?_⟩
    rw [HS2.out]
    exact ⟨AZ.out, rfl⟩
  go_at_call 88
  refine (p_take_ok (G.out.run.rd HR.out) ⟨#[59]⟩ (by decide) q2).mono ?_
  rintro e w2 ⟨rfl, hf2, hR2⟩
  have HS2 := HS.out
  rw [need_at, if_pos q2] at HS2
  have HS : Hid (Y = .ok (St.mk 6 ⟨#[]⟩ ⟨#[]⟩ [e1] [] [] tp) (c.at (j1 + 1))) := HS2
  have HL2 := Lib.hid (at_step (Par.isT_lt q2))
  have V1 := Lib.hid (exsAt_call V1.out hf2 (by have := hX.out; omega))
  have G := Lib.hid (G.out.call hf2 hR2 hX.out)
  clear HS2 q2 hf2 hR2
  obtain ⟨WE, hWE⟩ : ∃ WE, Hid (WE = w2) := ⟨_, rfl⟩
  rw [← hWE.out]
  rw [← hWE.out] at G V1
  have OS := G.out.st
  have OR := G.out.res
  go_wp2_with (first | (refine ld rowSt rfl rfl rfl OS rfl ?_) | (refine st rowSt rfl rfl OR rfl rfl (by rfl) (by rfl) (by kernel_rfl) ?_))
  have hx := hX.out
  have AE := G.out.run.setRow (g := w.heap.size + 1) (by omega) (by omega) #[.int .u8 6, .string ⟨#[]⟩, .string ⟨#[]⟩, .slice a1 1 cap1, .slice none 0 0, .slice none 0 0, .int .i64 0]
  refine p_ret rowSt rfl (OR.row #[.int .u8 6, .string ⟨#[]⟩, .string ⟨#[]⟩, .slice a1 1 cap1, .slice none 0 0, .slice none 0 0, .int .i64 0]) rfl rfl rfl ?_
  rw [HS.out]
  exact ⟨AE.fr, _, (j1 + 1), rfl, ⟨rfl, _, _, _, _, _, _, rfl, exsAt_mono (exsAt_row V1.out _ (g := w.heap.size + 1) (by omega)) (fun b hb => by omega), .inl rfl, .inl rfl⟩, AE.rd HR.out, rfl⟩
set_option maxRecDepth 100000 in
set_option maxHeartbeats 4000000 in
theorem m_skip {m : Nat} {c : Par} {w : World} {k : Nat} (R : Rd c w k) (t : Tk) (d : Int) :
    Calls Tryd.prog 58 #[c.ptr, tkV t, .int .i64 d] w (RdPost c w ((need c.L [59] (c.at k)).then fun _ r => .ok (St.mk 7 ⟨#[]⟩ ⟨#[]⟩ [] [] [] t.pos) r) (fun s v w' => s.pos = t.pos ∧ stR w.heap.size 0 s v w')) := by
  obtain ⟨tk, tx, tw, tp⟩ := t
  rw [need_at]
  have HR := Lib.hid R
  have hX := Lib.hid R.lt
  have A0 := Lib.hid (((At.start R).alloc (.cells #[.int .u8 tk, .string tx, .int .i64 tw, .int .i64 tp] 49)).alloc (.cells zSt 74))
  have O0 := Own.new (w.alloc (.cells #[.int .u8 tk, .string tx, .int .i64 tw, .int .i64 tp] 49)) 74 zSt
  rw [World.size_alloc] at O0
  have O0 := Lib.hid O0
  by_cases h1 : isT [59] (c.at k) = true
  · rw [if_pos h1]
    simp only [PR.then_ok]
    have H1 := Lib.hid h1
    clear h1 R
    unfold tkV Par.ptr zSt at *
    go_enter Tryd.func58, Tryd.ntmps58
    go_wp2_with fail
    go_at_call 88
    refine (p_take_ok (A0.out.rd HR.out) ⟨#[59]⟩ (by decide) H1.out).mono ?_
    rintro e w1 ⟨rfl, hf1, hR1⟩
    have hx := hX.out
    have A1 := Lib.hid (A0.out.call hf1 hR1)
    have O1 := O0.out.fr hf1 (by omega)
    clear hf1 hR1 hx O0
    go_wp2_with (first | (refine st rowSt rfl rfl O1 rfl rfl (by rfl) (by rfl) (by kernel_rfl) ?_))
    have hx := hX.out
    have A2 := A1.out.setRow (g := w.heap.size + 1) (by omega) (by omega) #[.int .u8 7, .string ⟨#[]⟩, .string ⟨#[]⟩, .slice none 0 0, .slice none 0 0, .slice none 0 0, .int .i64 0]
    exact p_ret rowSt rfl (O1.row #[.int .u8 7, .string ⟨#[]⟩, .string ⟨#[]⟩, .slice none 0 0, .slice none 0 0, .slice none 0 0, .int .i64 0]) rfl rfl rfl ⟨A2.fr, _, k + 1, rfl, ⟨rfl, none, 0, none, 0, none, 0, rfl, .inl rfl, .inl rfl, .inl rfl⟩, A2.rd HR.out, rfl⟩
  · have h1' : isT [59] (c.at k) = false := by simpa using h1
    rw [if_neg h1]
    simp only [PR.then_bad]
    have H1 := Lib.hid h1'
    clear h1 h1' R
    unfold tkV Par.ptr zSt at *
    go_enter Tryd.func58, Tryd.ntmps58
    go_wp2_with fail
    go_at_call 88
    refine (p_take_bad (A0.out.rd HR.out) ⟨#[59]⟩ (by decide) H1.out).mono ?_
    rintro e w1 ⟨rfl, hf1⟩
    have A1 := Lib.hid (A0.out.fr.trans hf1)
    clear hf1
    go_wp2_with fail
    exact ⟨rfl, A1.out, rfl⟩
/-- An expression in parentheses, alone in a list. -/
theorem p_condition {c : Par} {w : World} {k n : Nat} (R : Rd c w k) (hn : 3 * (c.at k).length + 2 ≤ n) :
    Calls Tryd.prog 84 #[c.ptr] w (RdPost c w (parenP fnd c.L n (c.at k)) (fun e v w' => exsVal w.heap.size [e] v w')) := by
  obtain ⟨Y, hY⟩ : ∃ Y, Y = parenP fnd c.L n (c.at k) := ⟨_, rfl⟩
  have HS := Lib.hid hY
  change Calls _ _ _ _ (RdPost c w (parenP fnd c.L n (c.at k)) _)
  rw [← hY]
  have HR := Lib.hid R
  have hX := Lib.hid R.lt
  have HM := Lib.hid hn
  clear hY R hn
  unfold Par.ptr at *
  have A0 := Lib.hid (At.start HR.out)
  go_enter Tryd.func84, Tryd.ntmps84
  go_wp2_with fail
  by_cases q1 : isT [40] (c.at k) = true; rotate_left
  · have q1' : isT [40] (c.at k) = false := by simpa using q1
    go_at_call 88
    refine (p_take_bad HR.out ⟨#[40]⟩ (by decide) q1').mono ?_
    rintro e w1 ⟨rfl, hf1⟩
    have HS2 := HS.out
    unfold parenP at HS2
    rw [need_at, q1'] at HS2
    have HS2 := Lib.hid HS2
    have AZ := Lib.hid hf1
    clear hf1 q1 q1'
    go_wp2_with fail
    refine ⟨rfl, ?_⟩
    rw [HS2.out]
    exact ⟨AZ.out, rfl⟩
  go_at_call 88
  refine (p_take_ok HR.out ⟨#[40]⟩ (by decide) q1).mono ?_
  rintro e w1 ⟨rfl, hf1, hR1⟩
  have HS2 := HS.out
  unfold parenP at HS2
  rw [need_at, if_pos q1] at HS2
  obtain ⟨Z, hZ⟩ : ∃ Z, Z = binE fnd c.L n 1 0 (c.at (k + 1)) := ⟨_, rfl⟩
  have HC : Hid (∀ W, Rd c W (k + 1) → Calls Tryd.prog 87 #[.pointer (some ⟨c.X, 0, none⟩)] W (RdPost c W Z (fun e v w' => exsVal W.heap.size [e] v w'))) := fun W RW => by rw [hZ]; exact p_value RW (by have := HM.out; have := at_step (Par.isT_lt q1); omega)
  have HS : Hid (Y = Z.then fun e r => (need c.L [41] r).then fun _ r => .ok e r) := by rw [Hid, HS2, hZ]; rfl
  have A1 := Lib.hid (A0.out.call hf1 hR1)
  clear HS2 q1 hf1 hR1 hZ
  go_wp2_with fail
  go_at_call 87
  refine (HC.out _ (A1.out.rd HR.out)).mono ?_
  rintro e w2 ⟨hf2, hm2⟩
  rcases Z with ⟨e2, r2⟩ | ⟨p, q⟩; rotate_left
  · obtain rfl := hm2
    have AZ := Lib.hid (A1.out.fr.trans hf2)
    clear hf2
    go_wp2_with fail
    refine ⟨rfl, ?_⟩
    rw [HS.out]
    exact ⟨AZ.out, rfl⟩
  obtain ⟨v2, j2, rfl, ⟨a2, cap2, rfl, hV2⟩, hR2, rfl⟩ := hm2
  have HS : Hid (Y = (need c.L [41] (c.at j2)).then fun _ r => .ok e2 r) := HS.out
  have V2 : Hid (exsAt (fun b => w.heap.size ≤ b) w2 [e2] a2) := Lib.hid (exsAt_mono hV2 (fun b hb => by have := A1.out.fr.size; change _ ≤ _ at hb; omega))
  have A2 := Lib.hid (A1.out.call hf2 hR2)
  clear hf2 hR2 hV2
  go_wp2_with fail
  by_cases q3 : isT [41] (c.at j2) = true; rotate_left
  · have q3' : isT [41] (c.at j2) = false := by simpa using q3
    go_at_call 88
    refine (p_take_bad (A2.out.rd HR.out) ⟨#[41]⟩ (by decide) q3').mono ?_
    rintro e w3 ⟨rfl, hf3⟩
    have HS2 := HS.out
    rw [need_at, q3'] at HS2
    have HS2 := Lib.hid HS2
    have AZ := Lib.hid (A2.out.fr.trans hf3)
    clear hf3 q3 q3'
    go_wp2_with fail
    refine ⟨rfl, ?_⟩
    rw [HS2.out]
    exact ⟨AZ.out, rfl⟩
  go_at_call 88
  refine (p_take_ok (A2.out.rd HR.out) ⟨#[41]⟩ (by decide) q3).mono ?_
  rintro e w3 ⟨rfl, hf3, hR3⟩
  have HS2 := HS.out
  rw [need_at, if_pos q3] at HS2
  have HS2 := Lib.hid HS2
  have V3 := Lib.hid (exsAt_call V2.out hf3 hX.out)
  have A3 := Lib.hid (A2.out.call hf3 hR3)
  clear hf3 hR3 q3
  go_wp2_with fail
  go_ret
  rw [HS2.out]
  exact ⟨A3.out.fr, _, _, rfl, ⟨_, _, rfl, V3.out⟩, A3.out.rd HR.out, rfl⟩

set_option maxRecDepth 100000 in
set_option maxHeartbeats 4000000 in
theorem m_loop {m : Nat} (HB : BlkC m) {c : Par} {w : World} {k : Nat} (R : Rd c w k) (t : Tk) (d : Int) (hd0 : 0 ≤ d) (hd1 : d ≤ 64) (hm : 3 * (c.at k).length + 3 ≤ m) :
    Calls Tryd.prog 55 #[c.ptr, tkV t, .int .i64 d] w (RdPost c w ((parenP fnd c.L m (c.at k)).then fun e r => (blkP c.L m (d + 1) r).then fun b r => .ok (St.mk 4 ⟨#[]⟩ ⟨#[]⟩ [e] b [] t.pos) r) (fun s v w' => s.pos = t.pos ∧ stR w.heap.size 0 s v w')) := by
  obtain ⟨tk, tx, tw, tp⟩ := t
  obtain ⟨Y, hY⟩ : ∃ Y, Y = (parenP fnd c.L m (c.at k)).then fun e r => (blkP c.L m (d + 1) r).then fun b r => .ok (St.mk 4 ⟨#[]⟩ ⟨#[]⟩ [e] b [] tp) r := ⟨_, rfl⟩
  have HS := Lib.hid hY
  change Calls _ _ _ _ (RdPost c w ((parenP fnd c.L m (c.at k)).then fun e r => (blkP c.L m (d + 1) r).then fun b r => .ok (St.mk 4 ⟨#[]⟩ ⟨#[]⟩ [e] b [] tp) r) _)
  rw [← hY]
  have HR := Lib.hid R
  have hX := Lib.hid R.lt
  have HM := Lib.hid hm
  have HB := Lib.hid HB
  have G := Lib.hid (StG.start R ⟨tk, tx, tw, tp⟩ #[.int .u8 4, .string ⟨#[]⟩, .string ⟨#[]⟩, .slice none 0 0, .slice none 0 0, .slice none 0 0, .int .i64 0])
  clear hY R hm
  unfold tkV Par.ptr zSt at *
  go_enter Tryd.func55, Tryd.ntmps55
  go_wp2_with fail
  obtain ⟨Z1, hZ1⟩ : ∃ Z1, Z1 = parenP fnd c.L m (c.at k) := ⟨_, rfl⟩
  have HC1 : Hid (∀ W, Rd c W k → Calls Tryd.prog 84 #[.pointer (some ⟨c.X, 0, none⟩)] W (RdPost c W Z1 (fun e v w' => exsVal W.heap.size [e] v w'))) := fun W RW => by rw [hZ1]; exact p_condition RW (by have := HM.out; skip; omega)
  have HSH1 : Hid (∀ e r, Z1 = .ok e r → r.length < (c.at k).length) := fun e r h => paren_short (hZ1.symm.trans h)
  have HS : Hid (Y = Z1.then fun e r => (blkP c.L m (d + 1) r).then fun b r => .ok (St.mk 4 ⟨#[]⟩ ⟨#[]⟩ [e] b [] tp) r) := by first | (rw [Hid, HS.out, hZ1]; done) | (rw [Hid, HS.out, hZ1]; rfl) | (rw [Hid, HS.out, hZ1]; unfold parenP; rfl)
  clear hZ1
  go_at_call 84
  refine (HC1.out _ (G.out.run.rd HR.out)).mono ?_
  rintro e w1 ⟨hf1, hm1⟩
  rcases Z1 with ⟨e1, r1⟩ | ⟨p, q⟩
  rotate_left
  · obtain rfl := hm1
    have HS2 := HS
    have AZ := Lib.hid (G.out.run.fr.trans hf1)
    clear hf1
    go_wp2_with fail
    refine ⟨rfl, ?_⟩
    rw [HS2.out]
    exact ⟨AZ.out, rfl⟩
  obtain ⟨v1, j1, rfl, ⟨a1, cap1, rfl, hV1⟩, hR1, rfl⟩ := hm1
  have HS : Hid (Y = (blkP c.L m (d + 1) (c.at j1)).then fun b r => .ok (St.mk 4 ⟨#[]⟩ ⟨#[]⟩ [e1] b [] tp) r) := HS.out
  have HL1 := Lib.hid (HSH1.out _ _ rfl)
  have V1 : Hid (exsAt (fun b => w.heap.size + 1 + 1 + 1 ≤ b) w1 [e1] a1) := Lib.hid (exsAt_mono hV1 (fun b hb => by have := G.out.st.lt; change _ ≤ _ at hb; omega))
  have G := Lib.hid (G.out.call hf1 hR1 hX.out)
  clear hf1 hR1 hV1
  have c3 := G.out.cell (i := 3) (v := .slice none 0 0) rfl
  have z3 := G.out.frozen 3
  go_wp2_with fail
  rw [show w1.setCell ⟨w.heap.size + 1 + 1, 3, none⟩ (.slice a1 1 cap1) = w1.setRow (w.heap.size + 1 + 1) #[.int .u8 4, .string ⟨#[]⟩, .string ⟨#[]⟩, .slice a1 1 cap1, .slice none 0 0, .slice none 0 0, .int .i64 0] from setCell_row G.out.st 3 _]
  have V1 := Lib.hid (exsAt_row V1.out #[.int .u8 4, .string ⟨#[]⟩, .string ⟨#[]⟩, .slice a1 1 cap1, .slice none 0 0, .slice none 0 0, .int .i64 0] (g := w.heap.size + 1 + 1) (by omega))
  have G := Lib.hid (G.out.row #[.int .u8 4, .string ⟨#[]⟩, .string ⟨#[]⟩, .slice a1 1 cap1, .slice none 0 0, .slice none 0 0, .int .i64 0] hX.out)
  clear c3 z3
  obtain ⟨Z2, hZ2⟩ : ∃ Z2, Z2 = blkP c.L m (d + 1) (c.at j1) := ⟨_, rfl⟩
  have HC2 : Hid (∀ W, Rd c W j1 → Calls Tryd.prog 85 #[.pointer (some ⟨c.X, 0, none⟩), .int .i64 (d + 1)] W (RdPost c W Z2 (fun l v w' => stsVal W.heap.size l v w'))) := fun W RW => by rw [hZ2]; exact HB.out c W j1 (d + 1) RW (by omega) (by omega) (by have := HM.out; have := HL1.out; omega)
  have HSH2 : Hid (∀ e r, Z2 = .ok e r → r.length < (c.at j1).length) := fun e r h => blkP_short (hZ2.symm.trans h)
  have HS : Hid (Y = Z2.then fun b r => .ok (St.mk 4 ⟨#[]⟩ ⟨#[]⟩ [e1] b [] tp) r) := by first | (rw [Hid, HS.out, hZ2]; done) | (rw [Hid, HS.out, hZ2]; exact blk_then _ _ () ())
  clear hZ2
  go_at_call 85
  refine (HC2.out _ (G.out.run.rd HR.out)).mono ?_
  rintro e w2 ⟨hf2, hm2⟩
  rcases Z2 with ⟨e2, r2⟩ | ⟨p, q⟩
  rotate_left
  · obtain rfl := hm2
    have HS2 := HS
    have AZ := Lib.hid (G.out.run.fr.trans hf2)
    clear hf2
    go_wp2_with fail
    refine ⟨rfl, ?_⟩
    rw [HS2.out]
    exact ⟨AZ.out, rfl⟩
  obtain ⟨v2, j2, rfl, ⟨a2, cap2, rfl, hV2⟩, hR2, rfl⟩ := hm2
  have HS : Hid (Y = .ok (St.mk 4 ⟨#[]⟩ ⟨#[]⟩ [e1] e2 [] tp) (c.at j2)) := HS.out
  have HL2 := Lib.hid (HSH2.out _ _ rfl)
  have V2 : Hid (stsAt (fun b => w.heap.size + 1 + 1 + 1 ≤ b) w2 e2 a2) := Lib.hid (stsAt_mono hV2 (fun b hb => by have := G.out.st.lt; change _ ≤ _ at hb; omega))
  have V1 := Lib.hid (exsAt_call V1.out hf2 (by have := hX.out; omega))
  have G := Lib.hid (G.out.call hf2 hR2 hX.out)
  clear hf2 hR2 hV2
  have C4 := Lib.hid (G.out.cell (i := 4) (v := .slice none 0 0) rfl)
  have Z4 := Lib.hid (G.out.frozen 4)
  have E5 : w2.setCell ⟨w.heap.size + 1 + 1, 4, none⟩ (.slice a2 e2.length cap2) = w2.setRow (w.heap.size + 1 + 1) #[.int .u8 4, .string ⟨#[]⟩, .string ⟨#[]⟩, .slice a1 1 cap1, .slice a2 e2.length cap2, .slice none 0 0, .int .i64 0] := setCell_row G.out.st 4 (.slice a2 e2.length cap2)
  have V1 := Lib.hid (exsAt_row V1.out #[.int .u8 4, .string ⟨#[]⟩, .string ⟨#[]⟩, .slice a1 1 cap1, .slice a2 e2.length cap2, .slice none 0 0, .int .i64 0] (g := w.heap.size + 1 + 1) (by omega))
  have V2 := Lib.hid (stsAt_row V2.out #[.int .u8 4, .string ⟨#[]⟩, .string ⟨#[]⟩, .slice a1 1 cap1, .slice a2 e2.length cap2, .slice none 0 0, .int .i64 0] (g := w.heap.size + 1 + 1) (by omega))
  have G := Lib.hid (G.out.row #[.int .u8 4, .string ⟨#[]⟩, .string ⟨#[]⟩, .slice a1 1 cap1, .slice a2 e2.length cap2, .slice none 0 0, .int .i64 0] hX.out)
  have OS := G.out.st
  have OR := G.out.res
  have C4 := C4.out
  have Z4 := Z4.out
  unfold zSt at OR
  go_wp2_with (first | (refine ld rowSt rfl rfl rfl OS rfl ?_) | (refine st rowSt rfl rfl OR rfl rfl (by rfl) (by rfl) (by kernel_rfl) ?_))
  clear C4 Z4 E5
  have hx := hX.out
  have AE := G.out.run.setRow (g := w.heap.size + 1) (by omega) (by omega) #[.int .u8 4, .string ⟨#[]⟩, .string ⟨#[]⟩, .slice a1 1 cap1, .slice a2 e2.length cap2, .slice none 0 0, .int .i64 0]
  refine p_ret rowSt rfl (OR.row #[.int .u8 4, .string ⟨#[]⟩, .string ⟨#[]⟩, .slice a1 1 cap1, .slice a2 e2.length cap2, .slice none 0 0, .int .i64 0]) rfl rfl rfl ?_
  rw [HS.out]
  exact ⟨AE.fr, _, j2, rfl, ⟨rfl, _, _, _, _, _, _, rfl, exsAt_mono (exsAt_row V1.out _ (g := w.heap.size + 1) (by omega)) (fun b hb => by omega), stsAt_mono (stsAt_row V2.out _ (g := w.heap.size + 1) (by omega)) (fun b hb => by omega), .inl rfl⟩, AE.rd HR.out, rfl⟩
set_option maxRecDepth 100000 in
set_option maxHeartbeats 4000000 in
theorem m_guard {m : Nat} (HB : BlkC m) {c : Par} {w : World} {k : Nat} (R : Rd c w k) (t : Tk) (d : Int) (hd0 : 0 ≤ d) (hd1 : d ≤ 64) (hm : 3 * (c.at k).length + 3 ≤ m) :
    Calls Tryd.prog 56 #[c.ptr, tkV t, .int .i64 d] w (RdPost c w ((nameP c.L (c.at k)).then fun o r => (blkP c.L m (d + 1) r).then fun b r => .ok (St.mk 5 o.name ⟨#[]⟩ [] b [] t.pos) r) (fun s v w' => s.pos = t.pos ∧ stR w.heap.size 0 s v w')) := by
  obtain ⟨tk, tx, tw, tp⟩ := t
  obtain ⟨Y, hY⟩ : ∃ Y, Y = (nameP c.L (c.at k)).then fun o r => (blkP c.L m (d + 1) r).then fun b r => .ok (St.mk 5 o.name ⟨#[]⟩ [] b [] tp) r := ⟨_, rfl⟩
  have HS := Lib.hid hY
  change Calls _ _ _ _ (RdPost c w ((nameP c.L (c.at k)).then fun o r => (blkP c.L m (d + 1) r).then fun b r => .ok (St.mk 5 o.name ⟨#[]⟩ [] b [] tp) r) _)
  rw [← hY]
  have HR := Lib.hid R
  have hX := Lib.hid R.lt
  have HM := Lib.hid hm
  have HB := Lib.hid HB
  have G := Lib.hid (StG.start R ⟨tk, tx, tw, tp⟩ #[.int .u8 5, .string ⟨#[]⟩, .string ⟨#[]⟩, .slice none 0 0, .slice none 0 0, .slice none 0 0, .int .i64 0])
  clear hY R hm
  unfold tkV Par.ptr zSt at *
  go_enter Tryd.func56, Tryd.ntmps56
  go_wp2_with fail
  by_cases q1 : (c.nx k).kind = 1
  rotate_left
  · go_at_call 86
    refine (p_kind_bad (G.out.run.rd HR.out) 1 q1).mono ?_
    rintro e w1 ⟨rfl, hf1⟩
    have HS2 := HS.out
    rw [nameP_at, if_neg q1] at HS2
    have HS2 := Lib.hid HS2
    clear q1
    have AZ := Lib.hid (G.out.run.fr.trans hf1)
    clear hf1
    go_wp2_with fail
    refine ⟨rfl, ?_⟩
    rw [HS2.out]
    exact ⟨AZ.out, rfl⟩
  have HK1 := Lib.hid (p_kind_ok (G.out.run.rd HR.out) 1 q1 (nx_lt (.inl (by rw [q1]; decide))))
  obtain ⟨t1, ht1⟩ : ∃ t, t = c.nx k := ⟨_, rfl⟩
  have HS2 := HS.out
  rw [nameP_at, if_pos q1, ← ht1] at HS2
  have HL1 := Lib.hid (at_step (c := c) (k := k) (nx_lt (.inl (by rw [q1]; decide))))
  rw [← ht1] at HK1
  have HS : Hid (Y = (blkP c.L m (d + 1) (c.at (k + 1))).then fun b r => .ok (St.mk 5 t1.text ⟨#[]⟩ [] b [] tp) r) := HS2
  clear q1 ht1 HS2
  obtain ⟨nk1, nm1, nw1, np1⟩ := t1
  unfold tkV Par.ptr at HK1
  go_at_call 86
  refine (HK1.out).mono ?_
  rintro e w1 ⟨rfl, hf1, hR1⟩
  have G := Lib.hid (G.out.call hf1 hR1 hX.out)
  clear hf1 hR1
  have c1 := G.out.cell (i := 1) (v := .string ⟨#[]⟩) rfl
  have z1 := G.out.frozen 1
  have F1 := tok_f1
  go_wp2_with fail
  rw [show w1.setCell ⟨w.heap.size + 1 + 1, 1, none⟩ (.string nm1) = w1.setRow (w.heap.size + 1 + 1) #[.int .u8 5, .string nm1, .string ⟨#[]⟩, .slice none 0 0, .slice none 0 0, .slice none 0 0, .int .i64 0] from setCell_row G.out.st 1 _]
  have G := Lib.hid (G.out.row #[.int .u8 5, .string nm1, .string ⟨#[]⟩, .slice none 0 0, .slice none 0 0, .slice none 0 0, .int .i64 0] hX.out)
  clear c1 z1
  clear F1
  obtain ⟨Z2, hZ2⟩ : ∃ Z2, Z2 = blkP c.L m (d + 1) (c.at (k + 1)) := ⟨_, rfl⟩
  have HC2 : Hid (∀ W, Rd c W (k + 1) → Calls Tryd.prog 85 #[.pointer (some ⟨c.X, 0, none⟩), .int .i64 (d + 1)] W (RdPost c W Z2 (fun l v w' => stsVal W.heap.size l v w'))) := fun W RW => by rw [hZ2]; exact HB.out c W (k + 1) (d + 1) RW (by omega) (by omega) (by have := HM.out; have := HL1.out; omega)
  have HSH2 : Hid (∀ e r, Z2 = .ok e r → r.length < (c.at (k + 1)).length) := fun e r h => blkP_short (hZ2.symm.trans h)
  have HS : Hid (Y = Z2.then fun b r => .ok (St.mk 5 nm1 ⟨#[]⟩ [] b [] tp) r) := by first | (rw [Hid, HS.out, hZ2]; done) | (rw [Hid, HS.out, hZ2]; exact blk_then _ _ () ())
  clear hZ2
  go_at_call 85
  refine (HC2.out _ (G.out.run.rd HR.out)).mono ?_
  rintro e w2 ⟨hf2, hm2⟩
  rcases Z2 with ⟨e2, r2⟩ | ⟨p, q⟩
  rotate_left
  · obtain rfl := hm2
    have HS2 := HS
    have AZ := Lib.hid (G.out.run.fr.trans hf2)
    clear hf2
    go_wp2_with fail
    refine ⟨rfl, ?_⟩
    rw [HS2.out]
    exact ⟨AZ.out, rfl⟩
  obtain ⟨v2, j2, rfl, ⟨a2, cap2, rfl, hV2⟩, hR2, rfl⟩ := hm2
  have HS : Hid (Y = .ok (St.mk 5 nm1 ⟨#[]⟩ [] e2 [] tp) (c.at j2)) := HS.out
  have HL2 := Lib.hid (HSH2.out _ _ rfl)
  have V2 : Hid (stsAt (fun b => w.heap.size + 1 + 1 + 1 ≤ b) w2 e2 a2) := Lib.hid (stsAt_mono hV2 (fun b hb => by have := G.out.st.lt; change _ ≤ _ at hb; omega))
  have G := Lib.hid (G.out.call hf2 hR2 hX.out)
  clear hf2 hR2 hV2
  have C4 := Lib.hid (G.out.cell (i := 4) (v := .slice none 0 0) rfl)
  have Z4 := Lib.hid (G.out.frozen 4)
  have E5 : w2.setCell ⟨w.heap.size + 1 + 1, 4, none⟩ (.slice a2 e2.length cap2) = w2.setRow (w.heap.size + 1 + 1) #[.int .u8 5, .string nm1, .string ⟨#[]⟩, .slice none 0 0, .slice a2 e2.length cap2, .slice none 0 0, .int .i64 0] := setCell_row G.out.st 4 (.slice a2 e2.length cap2)
  have V2 := Lib.hid (stsAt_row V2.out #[.int .u8 5, .string nm1, .string ⟨#[]⟩, .slice none 0 0, .slice a2 e2.length cap2, .slice none 0 0, .int .i64 0] (g := w.heap.size + 1 + 1) (by omega))
  have G := Lib.hid (G.out.row #[.int .u8 5, .string nm1, .string ⟨#[]⟩, .slice none 0 0, .slice a2 e2.length cap2, .slice none 0 0, .int .i64 0] hX.out)
  have OS := G.out.st
  have OR := G.out.res
  have C4 := C4.out
  have Z4 := Z4.out
  unfold zSt at OR
  go_wp2_with (first | (refine ld rowSt rfl rfl rfl OS rfl ?_) | (refine st rowSt rfl rfl OR rfl rfl (by rfl) (by rfl) (by kernel_rfl) ?_))
  clear C4 Z4 E5
  have hx := hX.out
  have AE := G.out.run.setRow (g := w.heap.size + 1) (by omega) (by omega) #[.int .u8 5, .string nm1, .string ⟨#[]⟩, .slice none 0 0, .slice a2 e2.length cap2, .slice none 0 0, .int .i64 0]
  refine p_ret rowSt rfl (OR.row #[.int .u8 5, .string nm1, .string ⟨#[]⟩, .slice none 0 0, .slice a2 e2.length cap2, .slice none 0 0, .int .i64 0]) rfl rfl rfl ?_
  rw [HS.out]
  exact ⟨AE.fr, _, j2, rfl, ⟨rfl, _, _, _, _, _, _, rfl, .inl rfl, stsAt_mono (stsAt_row V2.out _ (g := w.heap.size + 1) (by omega)) (fun b hb => by omega), .inl rfl⟩, AE.rd HR.out, rfl⟩
set_option maxRecDepth 100000 in
set_option maxHeartbeats 4000000 in
theorem m_choice {m : Nat} (HB : BlkC m) {c : Par} {w : World} {k : Nat} (R : Rd c w k) (t : Tk) (d : Int) (hd0 : 0 ≤ d) (hd1 : d ≤ 64) (hm : 3 * (c.at k).length + 3 ≤ m) :
    Calls Tryd.prog 54 #[c.ptr, tkV t, .int .i64 d] w (RdPost c w ((parenP fnd c.L m (c.at k)).then fun e r => (blkP c.L m (d + 1) r).then fun b r => if isT [101, 108, 115, 101] r = true then (blkP c.L m (d + 1) r.tail).then fun l r => .ok (St.mk 3 ⟨#[]⟩ ⟨#[]⟩ [e] b l t.pos) r else .ok (St.mk 3 ⟨#[]⟩ ⟨#[]⟩ [e] b [] t.pos) r) (fun s v w' => s.pos = t.pos ∧ stR w.heap.size 0 s v w')) := by
  obtain ⟨tk, tx, tw, tp⟩ := t
  obtain ⟨Y, hY⟩ : ∃ Y, Y = (parenP fnd c.L m (c.at k)).then fun e r => (blkP c.L m (d + 1) r).then fun b r => if isT [101, 108, 115, 101] r = true then (blkP c.L m (d + 1) r.tail).then fun l r => .ok (St.mk 3 ⟨#[]⟩ ⟨#[]⟩ [e] b l tp) r else .ok (St.mk 3 ⟨#[]⟩ ⟨#[]⟩ [e] b [] tp) r := ⟨_, rfl⟩
  have HS := Lib.hid hY
  change Calls _ _ _ _ (RdPost c w ((parenP fnd c.L m (c.at k)).then fun e r => (blkP c.L m (d + 1) r).then fun b r => if isT [101, 108, 115, 101] r = true then (blkP c.L m (d + 1) r.tail).then fun l r => .ok (St.mk 3 ⟨#[]⟩ ⟨#[]⟩ [e] b l tp) r else .ok (St.mk 3 ⟨#[]⟩ ⟨#[]⟩ [e] b [] tp) r) _)
  rw [← hY]
  have HR := Lib.hid R
  have hX := Lib.hid R.lt
  have HM := Lib.hid hm
  have HB := Lib.hid HB
  have G := Lib.hid (StG.start R ⟨tk, tx, tw, tp⟩ #[.int .u8 3, .string ⟨#[]⟩, .string ⟨#[]⟩, .slice none 0 0, .slice none 0 0, .slice none 0 0, .int .i64 0])
  clear hY R hm
  unfold tkV Par.ptr zSt at *
  go_enter Tryd.func54, Tryd.ntmps54
  go_wp2_with fail
  obtain ⟨Z1, hZ1⟩ : ∃ Z1, Z1 = parenP fnd c.L m (c.at k) := ⟨_, rfl⟩
  have HC1 : Hid (∀ W, Rd c W k → Calls Tryd.prog 84 #[.pointer (some ⟨c.X, 0, none⟩)] W (RdPost c W Z1 (fun e v w' => exsVal W.heap.size [e] v w'))) := fun W RW => by rw [hZ1]; exact p_condition RW (by have := HM.out; skip; omega)
  have HSH1 : Hid (∀ e r, Z1 = .ok e r → r.length < (c.at k).length) := fun e r h => paren_short (hZ1.symm.trans h)
  have HS : Hid (Y = Z1.then fun e r => (blkP c.L m (d + 1) r).then fun b r => if isT [101, 108, 115, 101] r = true then (blkP c.L m (d + 1) r.tail).then fun l r => .ok (St.mk 3 ⟨#[]⟩ ⟨#[]⟩ [e] b l tp) r else .ok (St.mk 3 ⟨#[]⟩ ⟨#[]⟩ [e] b [] tp) r) := by first | (rw [Hid, HS.out, hZ1]; done) | (rw [Hid, HS.out, hZ1]; rfl) | (rw [Hid, HS.out, hZ1]; unfold parenP; rfl)
  clear hZ1
  go_at_call 84
  refine (HC1.out _ (G.out.run.rd HR.out)).mono ?_
  rintro e w1 ⟨hf1, hm1⟩
  rcases Z1 with ⟨e1, r1⟩ | ⟨p, q⟩
  rotate_left
  · obtain rfl := hm1
    have HS2 := HS
    have AZ := Lib.hid (G.out.run.fr.trans hf1)
    clear hf1
    go_wp2_with fail
    refine ⟨rfl, ?_⟩
    rw [HS2.out]
    exact ⟨AZ.out, rfl⟩
  obtain ⟨v1, j1, rfl, ⟨a1, cap1, rfl, hV1⟩, hR1, rfl⟩ := hm1
  have HS : Hid (Y = (blkP c.L m (d + 1) (c.at j1)).then fun b r => if isT [101, 108, 115, 101] r = true then (blkP c.L m (d + 1) r.tail).then fun l r => .ok (St.mk 3 ⟨#[]⟩ ⟨#[]⟩ [e1] b l tp) r else .ok (St.mk 3 ⟨#[]⟩ ⟨#[]⟩ [e1] b [] tp) r) := HS.out
  have HL1 := Lib.hid (HSH1.out _ _ rfl)
  have V1 : Hid (exsAt (fun b => w.heap.size + 1 + 1 + 1 ≤ b) w1 [e1] a1) := Lib.hid (exsAt_mono hV1 (fun b hb => by have := G.out.st.lt; change _ ≤ _ at hb; omega))
  have G := Lib.hid (G.out.call hf1 hR1 hX.out)
  clear hf1 hR1 hV1
  have c3 := G.out.cell (i := 3) (v := .slice none 0 0) rfl
  have z3 := G.out.frozen 3
  go_wp2_with fail
  rw [show w1.setCell ⟨w.heap.size + 1 + 1, 3, none⟩ (.slice a1 1 cap1) = w1.setRow (w.heap.size + 1 + 1) #[.int .u8 3, .string ⟨#[]⟩, .string ⟨#[]⟩, .slice a1 1 cap1, .slice none 0 0, .slice none 0 0, .int .i64 0] from setCell_row G.out.st 3 _]
  have V1 := Lib.hid (exsAt_row V1.out #[.int .u8 3, .string ⟨#[]⟩, .string ⟨#[]⟩, .slice a1 1 cap1, .slice none 0 0, .slice none 0 0, .int .i64 0] (g := w.heap.size + 1 + 1) (by omega))
  have G := Lib.hid (G.out.row #[.int .u8 3, .string ⟨#[]⟩, .string ⟨#[]⟩, .slice a1 1 cap1, .slice none 0 0, .slice none 0 0, .int .i64 0] hX.out)
  clear c3 z3
  obtain ⟨Z2, hZ2⟩ : ∃ Z2, Z2 = blkP c.L m (d + 1) (c.at j1) := ⟨_, rfl⟩
  have HC2 : Hid (∀ W, Rd c W j1 → Calls Tryd.prog 85 #[.pointer (some ⟨c.X, 0, none⟩), .int .i64 (d + 1)] W (RdPost c W Z2 (fun l v w' => stsVal W.heap.size l v w'))) := fun W RW => by rw [hZ2]; exact HB.out c W j1 (d + 1) RW (by omega) (by omega) (by have := HM.out; have := HL1.out; omega)
  have HSH2 : Hid (∀ e r, Z2 = .ok e r → r.length < (c.at j1).length) := fun e r h => blkP_short (hZ2.symm.trans h)
  have HS : Hid (Y = Z2.then fun b r => if isT [101, 108, 115, 101] r = true then (blkP c.L m (d + 1) r.tail).then fun l r => .ok (St.mk 3 ⟨#[]⟩ ⟨#[]⟩ [e1] b l tp) r else .ok (St.mk 3 ⟨#[]⟩ ⟨#[]⟩ [e1] b [] tp) r) := by first | (rw [Hid, HS.out, hZ2]; done) | (rw [Hid, HS.out, hZ2]; exact blk_then _ _ () ())
  clear hZ2
  go_at_call 85
  refine (HC2.out _ (G.out.run.rd HR.out)).mono ?_
  rintro e w2 ⟨hf2, hm2⟩
  rcases Z2 with ⟨e2, r2⟩ | ⟨p, q⟩
  rotate_left
  · obtain rfl := hm2
    have HS2 := HS
    have AZ := Lib.hid (G.out.run.fr.trans hf2)
    clear hf2
    go_wp2_with fail
    refine ⟨rfl, ?_⟩
    rw [HS2.out]
    exact ⟨AZ.out, rfl⟩
  obtain ⟨v2, j2, rfl, ⟨a2, cap2, rfl, hV2⟩, hR2, rfl⟩ := hm2
  have HS : Hid (Y = if isT [101, 108, 115, 101] (c.at j2) = true then (blkP c.L m (d + 1) (c.at j2).tail).then fun l r => .ok (St.mk 3 ⟨#[]⟩ ⟨#[]⟩ [e1] e2 l tp) r else .ok (St.mk 3 ⟨#[]⟩ ⟨#[]⟩ [e1] e2 [] tp) (c.at j2)) := HS.out
  have HL2 := Lib.hid (HSH2.out _ _ rfl)
  have V2 : Hid (stsAt (fun b => w.heap.size + 1 + 1 + 1 ≤ b) w2 e2 a2) := Lib.hid (stsAt_mono hV2 (fun b hb => by have := G.out.st.lt; change _ ≤ _ at hb; omega))
  have V1 := Lib.hid (exsAt_call V1.out hf2 (by have := hX.out; omega))
  have G := Lib.hid (G.out.call hf2 hR2 hX.out)
  clear hf2 hR2 hV2
  have c4 := G.out.cell (i := 4) (v := .slice none 0 0) rfl
  have z4 := G.out.frozen 4
  go_wp2_with fail
  rw [show w2.setCell ⟨w.heap.size + 1 + 1, 4, none⟩ (.slice a2 e2.length cap2) = w2.setRow (w.heap.size + 1 + 1) #[.int .u8 3, .string ⟨#[]⟩, .string ⟨#[]⟩, .slice a1 1 cap1, .slice a2 e2.length cap2, .slice none 0 0, .int .i64 0] from setCell_row G.out.st 4 _]
  have V1 := Lib.hid (exsAt_row V1.out #[.int .u8 3, .string ⟨#[]⟩, .string ⟨#[]⟩, .slice a1 1 cap1, .slice a2 e2.length cap2, .slice none 0 0, .int .i64 0] (g := w.heap.size + 1 + 1) (by omega))
  have V2 := Lib.hid (stsAt_row V2.out #[.int .u8 3, .string ⟨#[]⟩, .string ⟨#[]⟩, .slice a1 1 cap1, .slice a2 e2.length cap2, .slice none 0 0, .int .i64 0] (g := w.heap.size + 1 + 1) (by omega))
  have G := Lib.hid (G.out.row #[.int .u8 3, .string ⟨#[]⟩, .string ⟨#[]⟩, .slice a1 1 cap1, .slice a2 e2.length cap2, .slice none 0 0, .int .i64 0] hX.out)
  clear c4 z4
  obtain ⟨B3, hB3⟩ : ∃ b, b = isT [101, 108, 115, 101] (c.at j2) := ⟨_, rfl⟩
  have HC3 : Hid (∀ W, Rd c W j2 → Calls Tryd.prog 45 #[.pointer (some ⟨c.X, 0, none⟩), .string ⟨#[101, 108, 115, 101]⟩] W fun e w' => e = .returned (.bool B3) ∧ Fr c W w' ∧ Rd c w' (if B3 = true then j2 + 1 else j2)) := fun W RW => by rw [hB3]; exact p_pass RW ⟨#[101, 108, 115, 101]⟩ (by decide)
  go_at_call 45
  refine (HC3.out _ (G.out.run.rd HR.out)).mono ?_
  rintro e w3 ⟨rfl, hf3, hR3⟩
  have HS2 := HS.out
  have V1 := Lib.hid (exsAt_call V1.out hf3 (by have := hX.out; omega))
  have V2 := Lib.hid (stsAt_call V2.out hf3 (by have := hX.out; omega))
  rw [← hB3] at HS2
  cases B3
  · have HS : Hid (Y = .ok (St.mk 3 ⟨#[]⟩ ⟨#[]⟩ [e1] e2 [] tp) (c.at j2)) := HS2
    have G := Lib.hid (G.out.call hf3 (show Rd c w3 j2 from hR3) hX.out)
    clear HS2 hB3 HC3 hf3 hR3
    obtain ⟨WE, hWE⟩ : ∃ WE, Hid (WE = w3) := ⟨_, rfl⟩
    rw [← hWE.out]
    rw [← hWE.out] at G V1 V2
    have OS := G.out.st
    have OR := G.out.res
    go_wp2_with (first | (refine ld rowSt rfl rfl rfl OS rfl ?_) | (refine st rowSt rfl rfl OR rfl rfl (by rfl) (by rfl) (by kernel_rfl) ?_))
    have hx := hX.out
    have AE := G.out.run.setRow (g := w.heap.size + 1) (by omega) (by omega) #[.int .u8 3, .string ⟨#[]⟩, .string ⟨#[]⟩, .slice a1 1 cap1, .slice a2 e2.length cap2, .slice none 0 0, .int .i64 0]
    refine p_ret rowSt rfl (OR.row #[.int .u8 3, .string ⟨#[]⟩, .string ⟨#[]⟩, .slice a1 1 cap1, .slice a2 e2.length cap2, .slice none 0 0, .int .i64 0]) rfl rfl rfl ?_
    rw [HS.out]
    exact ⟨AE.fr, _, j2, rfl, ⟨rfl, _, _, _, _, _, _, rfl, exsAt_mono (exsAt_row V1.out _ (g := w.heap.size + 1) (by omega)) (fun b hb => by omega), stsAt_mono (stsAt_row V2.out _ (g := w.heap.size + 1) (by omega)) (fun b hb => by omega), .inl rfl⟩, AE.rd HR.out, rfl⟩
  have HS : Hid (Y = (blkP c.L m (d + 1) (c.at (j2 + 1))).then fun l r => .ok (St.mk 3 ⟨#[]⟩ ⟨#[]⟩ [e1] e2 l tp) r) := HS2.trans (by rw [if_pos rfl, Par.at_tail])
  have G := Lib.hid (G.out.call hf3 (show Rd c w3 (j2 + 1) from hR3) hX.out)
  have HL3 := Lib.hid (at_step (Par.isT_lt hB3.symm))
  clear HS2 hB3 HC3 hf3 hR3
  go_wp2_with fail
  obtain ⟨Z4, hZ4⟩ : ∃ Z4, Z4 = blkP c.L m (d + 1) (c.at (j2 + 1)) := ⟨_, rfl⟩
  have HC4 : Hid (∀ W, Rd c W (j2 + 1) → Calls Tryd.prog 85 #[.pointer (some ⟨c.X, 0, none⟩), .int .i64 (d + 1)] W (RdPost c W Z4 (fun l v w' => stsVal W.heap.size l v w'))) := fun W RW => by rw [hZ4]; exact HB.out c W (j2 + 1) (d + 1) RW (by omega) (by omega) (by have := HM.out; have := HL1.out; have := HL2.out; have := HL3.out; omega)
  have HSH4 : Hid (∀ e r, Z4 = .ok e r → r.length < (c.at (j2 + 1)).length) := fun e r h => blkP_short (hZ4.symm.trans h)
  have HS : Hid (Y = Z4.then fun b r => .ok (St.mk 3 ⟨#[]⟩ ⟨#[]⟩ [e1] e2 b tp) r) := by first | (rw [Hid, HS.out, hZ4]; done) | (rw [Hid, HS.out, hZ4]; exact blk_then _ _ () ())
  clear hZ4
  go_at_call 85
  refine (HC4.out _ (G.out.run.rd HR.out)).mono ?_
  rintro e w4 ⟨hf4, hm4⟩
  rcases Z4 with ⟨e4, r4⟩ | ⟨p, q⟩
  rotate_left
  · obtain rfl := hm4
    have HS2 := HS
    have AZ := Lib.hid (G.out.run.fr.trans hf4)
    clear hf4
    go_wp2_with fail
    refine ⟨rfl, ?_⟩
    rw [HS2.out]
    exact ⟨AZ.out, rfl⟩
  obtain ⟨v4, j4, rfl, ⟨a4, cap4, rfl, hV4⟩, hR4, rfl⟩ := hm4
  have HS : Hid (Y = .ok (St.mk 3 ⟨#[]⟩ ⟨#[]⟩ [e1] e2 e4 tp) (c.at j4)) := HS.out
  have HL4 := Lib.hid (HSH4.out _ _ rfl)
  have V4 : Hid (stsAt (fun b => w.heap.size + 1 + 1 + 1 ≤ b) w4 e4 a4) := Lib.hid (stsAt_mono hV4 (fun b hb => by have := G.out.st.lt; change _ ≤ _ at hb; omega))
  have V1 := Lib.hid (exsAt_call V1.out hf4 (by have := hX.out; omega))
  have V2 := Lib.hid (stsAt_call V2.out hf4 (by have := hX.out; omega))
  have G := Lib.hid (G.out.call hf4 hR4 hX.out)
  clear hf4 hR4 hV4
  have C4 := Lib.hid (G.out.cell (i := 5) (v := .slice none 0 0) rfl)
  have Z4 := Lib.hid (G.out.frozen 5)
  have E5 : w4.setCell ⟨w.heap.size + 1 + 1, 5, none⟩ (.slice a4 e4.length cap4) = w4.setRow (w.heap.size + 1 + 1) #[.int .u8 3, .string ⟨#[]⟩, .string ⟨#[]⟩, .slice a1 1 cap1, .slice a2 e2.length cap2, .slice a4 e4.length cap4, .int .i64 0] := setCell_row G.out.st 5 (.slice a4 e4.length cap4)
  have V1 := Lib.hid (exsAt_row V1.out #[.int .u8 3, .string ⟨#[]⟩, .string ⟨#[]⟩, .slice a1 1 cap1, .slice a2 e2.length cap2, .slice a4 e4.length cap4, .int .i64 0] (g := w.heap.size + 1 + 1) (by omega))
  have V2 := Lib.hid (stsAt_row V2.out #[.int .u8 3, .string ⟨#[]⟩, .string ⟨#[]⟩, .slice a1 1 cap1, .slice a2 e2.length cap2, .slice a4 e4.length cap4, .int .i64 0] (g := w.heap.size + 1 + 1) (by omega))
  have V4 := Lib.hid (stsAt_row V4.out #[.int .u8 3, .string ⟨#[]⟩, .string ⟨#[]⟩, .slice a1 1 cap1, .slice a2 e2.length cap2, .slice a4 e4.length cap4, .int .i64 0] (g := w.heap.size + 1 + 1) (by omega))
  have G := Lib.hid (G.out.row #[.int .u8 3, .string ⟨#[]⟩, .string ⟨#[]⟩, .slice a1 1 cap1, .slice a2 e2.length cap2, .slice a4 e4.length cap4, .int .i64 0] hX.out)
  have OS := G.out.st
  have OR := G.out.res
  have C4 := C4.out
  have Z4 := Z4.out
  unfold zSt at OR
  go_wp2_with (first | (refine ld rowSt rfl rfl rfl OS rfl ?_) | (refine st rowSt rfl rfl OR rfl rfl (by rfl) (by rfl) (by kernel_rfl) ?_))
  clear C4 Z4 E5
  have hx := hX.out
  have AE := G.out.run.setRow (g := w.heap.size + 1) (by omega) (by omega) #[.int .u8 3, .string ⟨#[]⟩, .string ⟨#[]⟩, .slice a1 1 cap1, .slice a2 e2.length cap2, .slice a4 e4.length cap4, .int .i64 0]
  refine p_ret rowSt rfl (OR.row #[.int .u8 3, .string ⟨#[]⟩, .string ⟨#[]⟩, .slice a1 1 cap1, .slice a2 e2.length cap2, .slice a4 e4.length cap4, .int .i64 0]) rfl rfl rfl ?_
  rw [HS.out]
  exact ⟨AE.fr, _, j4, rfl, ⟨rfl, _, _, _, _, _, _, rfl, exsAt_mono (exsAt_row V1.out _ (g := w.heap.size + 1) (by omega)) (fun b hb => by omega), stsAt_mono (stsAt_row V2.out _ (g := w.heap.size + 1) (by omega)) (fun b hb => by omega), stsAt_mono (stsAt_row V4.out _ (g := w.heap.size + 1) (by omega)) (fun b hb => by omega)⟩, AE.rd HR.out, rfl⟩
set_option maxRecDepth 100000 in
set_option maxHeartbeats 4000000 in
theorem m_change {m : Nat} {c : Par} {w : World} {k : Nat} (R : Rd c w k) (t : Tk) (d : Int) (hd0 : 0 ≤ d) (hd1 : d ≤ 64) (hm : 3 * (c.at k).length + 3 ≤ m) :
    Calls Tryd.prog 110 #[c.ptr, tkV t, .int .i64 d] w (RdPost c w ((need c.L [61] (c.at k)).then fun _ r => if isT [115, 119, 97, 112] r = true then (need c.L [40] r.tail).then fun _ r => (nameP c.L r).then fun o r => (need c.L [44] r).then fun _ r => (binE fnd c.L m 1 0 r).then fun e r => (need c.L [41] r).then fun _ r => (need c.L [59] r).then fun _ r => .ok (St.mk 2 t.text o.name [e] [] [] t.pos) r else (binE fnd c.L m 1 0 r).then fun e r => (need c.L [59] r).then fun _ r => .ok (St.mk 1 t.text ⟨#[]⟩ [e] [] [] t.pos) r) (fun s v w' => s.pos = t.pos ∧ stR w.heap.size 0 s v w')) := by
  obtain ⟨tk, tx, tw, tp⟩ := t
  obtain ⟨Y, hY⟩ : ∃ Y, Y = (need c.L [61] (c.at k)).then fun _ r => if isT [115, 119, 97, 112] r = true then (need c.L [40] r.tail).then fun _ r => (nameP c.L r).then fun o r => (need c.L [44] r).then fun _ r => (binE fnd c.L m 1 0 r).then fun e r => (need c.L [41] r).then fun _ r => (need c.L [59] r).then fun _ r => .ok (St.mk 2 tx o.name [e] [] [] tp) r else (binE fnd c.L m 1 0 r).then fun e r => (need c.L [59] r).then fun _ r => .ok (St.mk 1 tx ⟨#[]⟩ [e] [] [] tp) r := ⟨_, rfl⟩
  have HS := Lib.hid hY
  change Calls _ _ _ _ (RdPost c w ((need c.L [61] (c.at k)).then fun _ r => if isT [115, 119, 97, 112] r = true then (need c.L [40] r.tail).then fun _ r => (nameP c.L r).then fun o r => (need c.L [44] r).then fun _ r => (binE fnd c.L m 1 0 r).then fun e r => (need c.L [41] r).then fun _ r => (need c.L [59] r).then fun _ r => .ok (St.mk 2 tx o.name [e] [] [] tp) r else (binE fnd c.L m 1 0 r).then fun e r => (need c.L [59] r).then fun _ r => .ok (St.mk 1 tx ⟨#[]⟩ [e] [] [] tp) r) _)
  rw [← hY]
  have HR := Lib.hid R
  have hX := Lib.hid R.lt
  have HM := Lib.hid hm
  have G := Lib.hid (StG.start R ⟨tk, tx, tw, tp⟩ #[.int .u8 1, .string tx, .string ⟨#[]⟩, .slice none 0 0, .slice none 0 0, .slice none 0 0, .int .i64 0])
  clear hY R hm
  unfold tkV Par.ptr zSt at *
  go_enter Tryd.func110, Tryd.ntmps110
  go_wp2_with fail
  by_cases q1 : isT [61] (c.at (k)) = true
  rotate_left
  · have q1' : isT [61] (c.at (k)) = false := by simpa using q1
    go_at_call 88
    refine (p_take_bad (G.out.run.rd HR.out) ⟨#[61]⟩ (by decide) q1').mono ?_
    rintro e w1 ⟨rfl, hf1⟩
    have HS2 := HS.out
    rw [need_at, q1'] at HS2
    have HS2 := Lib.hid HS2
    clear q1 q1'
    have AZ := Lib.hid (G.out.run.fr.trans hf1)
    clear hf1
    go_wp2_with fail
    refine ⟨rfl, ?_⟩
    rw [HS2.out]
    exact ⟨AZ.out, rfl⟩
  go_at_call 88
  refine (p_take_ok (G.out.run.rd HR.out) ⟨#[61]⟩ (by decide) q1).mono ?_
  rintro e w1 ⟨rfl, hf1, hR1⟩
  have HS2 := HS.out
  rw [need_at, if_pos q1] at HS2
  have HS : Hid (Y = if isT [115, 119, 97, 112] (c.at (k + 1)) = true then (need c.L [40] (c.at (k + 1)).tail).then fun _ r => (nameP c.L r).then fun o r => (need c.L [44] r).then fun _ r => (binE fnd c.L m 1 0 r).then fun e r => (need c.L [41] r).then fun _ r => (need c.L [59] r).then fun _ r => .ok (St.mk 2 tx o.name [e] [] [] tp) r else (binE fnd c.L m 1 0 (c.at (k + 1))).then fun e r => (need c.L [59] r).then fun _ r => .ok (St.mk 1 tx ⟨#[]⟩ [e] [] [] tp) r) := HS2
  have HL1 := Lib.hid (at_step (Par.isT_lt q1))
  have G := Lib.hid (G.out.call hf1 hR1 hX.out)
  clear HS2 q1 hf1 hR1
  go_wp2_with fail
  obtain ⟨B2, hB2⟩ : ∃ b, b = isT [115, 119, 97, 112] (c.at (k + 1)) := ⟨_, rfl⟩
  have HC2 : Hid (∀ W, Rd c W (k + 1) → Calls Tryd.prog 45 #[.pointer (some ⟨c.X, 0, none⟩), .string ⟨#[115, 119, 97, 112]⟩] W fun e w' => e = .returned (.bool B2) ∧ Fr c W w' ∧ Rd c w' (if B2 = true then (k + 1) + 1 else (k + 1))) := fun W RW => by rw [hB2]; exact p_pass RW ⟨#[115, 119, 97, 112]⟩ (by decide)
  go_at_call 45
  refine (HC2.out _ (G.out.run.rd HR.out)).mono ?_
  rintro e w2 ⟨rfl, hf2, hR2⟩
  have HS2 := HS.out
  rw [← hB2] at HS2
  cases B2
  · have HS : Hid (Y = (binE fnd c.L m 1 0 (c.at (k + 1))).then fun e r => (need c.L [59] r).then fun _ r => .ok (St.mk 1 tx ⟨#[]⟩ [e] [] [] tp) r) := HS2
    have G := Lib.hid (G.out.call hf2 (show Rd c w2 (k + 1) from hR2) hX.out)
    clear HS2 hB2 HC2 hf2 hR2
    go_wp2_with fail
    obtain ⟨Z3, hZ3⟩ : ∃ Z3, Z3 = binE fnd c.L m 1 0 (c.at (k + 1)) := ⟨_, rfl⟩
    have HC3 : Hid (∀ W, Rd c W (k + 1) → Calls Tryd.prog 87 #[.pointer (some ⟨c.X, 0, none⟩)] W (RdPost c W Z3 (fun e v w' => exsVal W.heap.size [e] v w'))) := fun W RW => by rw [hZ3]; exact p_value RW (by have := HM.out; have := HL1.out; omega)
    have HSH3 : Hid (∀ e r, Z3 = .ok e r → r.length < (c.at (k + 1)).length) := fun e r h => binE_short (hZ3.symm.trans h)
    have HS : Hid (Y = Z3.then fun e r => (need c.L [59] r).then fun _ r => .ok (St.mk 1 tx ⟨#[]⟩ [e] [] [] tp) r) := by first | (rw [Hid, HS.out, hZ3]; done) | (rw [Hid, HS.out, hZ3]; rfl) | (rw [Hid, HS.out, hZ3]; unfold parenP; rfl)
    clear hZ3
    go_at_call 87
    refine (HC3.out _ (G.out.run.rd HR.out)).mono ?_
    rintro e w3 ⟨hf3, hm3⟩
    rcases Z3 with ⟨e3, r3⟩ | ⟨p, q⟩
    rotate_left
    · obtain rfl := hm3
      have HS2 := HS
      have AZ := Lib.hid (G.out.run.fr.trans hf3)
      clear hf3
      go_wp2_with fail
      refine ⟨rfl, ?_⟩
      rw [HS2.out]
      exact ⟨AZ.out, rfl⟩
    obtain ⟨v3, j3, rfl, ⟨a3, cap3, rfl, hV3⟩, hR3, rfl⟩ := hm3
    have HS : Hid (Y = (need c.L [59] (c.at j3)).then fun _ r => .ok (St.mk 1 tx ⟨#[]⟩ [e3] [] [] tp) r) := HS.out
    have HL3 := Lib.hid (HSH3.out _ _ rfl)
    have V3 : Hid (exsAt (fun b => w.heap.size + 1 + 1 + 1 ≤ b) w3 [e3] a3) := Lib.hid (exsAt_mono hV3 (fun b hb => by have := G.out.st.lt; change _ ≤ _ at hb; omega))
    have G := Lib.hid (G.out.call hf3 hR3 hX.out)
    clear hf3 hR3 hV3
    have c3 := G.out.cell (i := 3) (v := .slice none 0 0) rfl
    have z3 := G.out.frozen 3
    go_wp2_with fail
    rw [show w3.setCell ⟨w.heap.size + 1 + 1, 3, none⟩ (.slice a3 1 cap3) = w3.setRow (w.heap.size + 1 + 1) #[.int .u8 1, .string tx, .string ⟨#[]⟩, .slice a3 1 cap3, .slice none 0 0, .slice none 0 0, .int .i64 0] from setCell_row G.out.st 3 _]
    have V3 := Lib.hid (exsAt_row V3.out #[.int .u8 1, .string tx, .string ⟨#[]⟩, .slice a3 1 cap3, .slice none 0 0, .slice none 0 0, .int .i64 0] (g := w.heap.size + 1 + 1) (by omega))
    have G := Lib.hid (G.out.row #[.int .u8 1, .string tx, .string ⟨#[]⟩, .slice a3 1 cap3, .slice none 0 0, .slice none 0 0, .int .i64 0] hX.out)
    clear c3 z3
    by_cases q4 : isT [59] (c.at (j3)) = true
    rotate_left
    · have q4' : isT [59] (c.at (j3)) = false := by simpa using q4
      go_at_call 88
      refine (p_take_bad (G.out.run.rd HR.out) ⟨#[59]⟩ (by decide) q4').mono ?_
      rintro e w4 ⟨rfl, hf4⟩
      have HS2 := HS.out
      rw [need_at, q4'] at HS2
      have HS2 := Lib.hid HS2
      clear q4 q4'
      have AZ := Lib.hid (G.out.run.fr.trans hf4)
      clear hf4
      go_wp2_with fail
      refine ⟨rfl, ?_⟩
      rw [HS2.out]
      exact ⟨AZ.out, rfl⟩
    go_at_call 88
    refine (p_take_ok (G.out.run.rd HR.out) ⟨#[59]⟩ (by decide) q4).mono ?_
    rintro e w4 ⟨rfl, hf4, hR4⟩
    have HS2 := HS.out
    rw [need_at, if_pos q4] at HS2
    have HS : Hid (Y = .ok (St.mk 1 tx ⟨#[]⟩ [e3] [] [] tp) (c.at (j3 + 1))) := HS2
    have HL4 := Lib.hid (at_step (Par.isT_lt q4))
    have V3 := Lib.hid (exsAt_call V3.out hf4 (by have := hX.out; omega))
    have G := Lib.hid (G.out.call hf4 hR4 hX.out)
    clear HS2 q4 hf4 hR4
    obtain ⟨WE, hWE⟩ : ∃ WE, Hid (WE = w4) := ⟨_, rfl⟩
    rw [← hWE.out]
    rw [← hWE.out] at G V3
    have OS := G.out.st
    have OR := G.out.res
    go_wp2_with (first | (refine ld rowSt rfl rfl rfl OS rfl ?_) | (refine st rowSt rfl rfl OR rfl rfl (by rfl) (by rfl) (by kernel_rfl) ?_))
    have hx := hX.out
    have AE := G.out.run.setRow (g := w.heap.size + 1) (by omega) (by omega) #[.int .u8 1, .string tx, .string ⟨#[]⟩, .slice a3 1 cap3, .slice none 0 0, .slice none 0 0, .int .i64 0]
    refine p_ret rowSt rfl (OR.row #[.int .u8 1, .string tx, .string ⟨#[]⟩, .slice a3 1 cap3, .slice none 0 0, .slice none 0 0, .int .i64 0]) rfl rfl rfl ?_
    rw [HS.out]
    exact ⟨AE.fr, _, (j3 + 1), rfl, ⟨rfl, _, _, _, _, _, _, rfl, exsAt_mono (exsAt_row V3.out _ (g := w.heap.size + 1) (by omega)) (fun b hb => by omega), .inl rfl, .inl rfl⟩, AE.rd HR.out, rfl⟩
  have HS : Hid (Y = (need c.L [40] (c.at ((k + 1) + 1))).then fun _ r => (nameP c.L r).then fun o r => (need c.L [44] r).then fun _ r => (binE fnd c.L m 1 0 r).then fun e r => (need c.L [41] r).then fun _ r => (need c.L [59] r).then fun _ r => .ok (St.mk 2 tx o.name [e] [] [] tp) r) := HS2.trans (by rw [if_pos rfl, Par.at_tail])
  have G := Lib.hid (G.out.call hf2 (show Rd c w2 ((k + 1) + 1) from hR2) hX.out)
  have HL2 := Lib.hid (at_step (Par.isT_lt hB2.symm))
  clear HS2 hB2 HC2 hf2 hR2
  have c0 := G.out.cell (i := 0) (v := .int .u8 1) rfl
  have z0 := G.out.frozen 0
  go_wp2_with fail
  rw [show w2.setCell ⟨w.heap.size + 1 + 1, 0, none⟩ (.int .u8 2) = w2.setRow (w.heap.size + 1 + 1) #[.int .u8 2, .string tx, .string ⟨#[]⟩, .slice none 0 0, .slice none 0 0, .slice none 0 0, .int .i64 0] from setCell_row G.out.st 0 _]
  have G := Lib.hid (G.out.row #[.int .u8 2, .string tx, .string ⟨#[]⟩, .slice none 0 0, .slice none 0 0, .slice none 0 0, .int .i64 0] hX.out)
  clear c0 z0
  by_cases q3 : isT [40] (c.at (((k + 1) + 1))) = true
  rotate_left
  · have q3' : isT [40] (c.at (((k + 1) + 1))) = false := by simpa using q3
    go_at_call 88
    refine (p_take_bad (G.out.run.rd HR.out) ⟨#[40]⟩ (by decide) q3').mono ?_
    rintro e w3 ⟨rfl, hf3⟩
    have HS2 := HS.out
    rw [need_at, q3'] at HS2
    have HS2 := Lib.hid HS2
    clear q3 q3'
    have AZ := Lib.hid (G.out.run.fr.trans hf3)
    clear hf3
    go_wp2_with fail
    refine ⟨rfl, ?_⟩
    rw [HS2.out]
    exact ⟨AZ.out, rfl⟩
  go_at_call 88
  refine (p_take_ok (G.out.run.rd HR.out) ⟨#[40]⟩ (by decide) q3).mono ?_
  rintro e w3 ⟨rfl, hf3, hR3⟩
  have HS2 := HS.out
  rw [need_at, if_pos q3] at HS2
  have HS : Hid (Y = (nameP c.L (c.at (((k + 1) + 1) + 1))).then fun o r => (need c.L [44] r).then fun _ r => (binE fnd c.L m 1 0 r).then fun e r => (need c.L [41] r).then fun _ r => (need c.L [59] r).then fun _ r => .ok (St.mk 2 tx o.name [e] [] [] tp) r) := HS2
  have HL3 := Lib.hid (at_step (Par.isT_lt q3))
  have G := Lib.hid (G.out.call hf3 hR3 hX.out)
  clear HS2 q3 hf3 hR3
  go_wp2_with fail
  by_cases q4 : (c.nx (((k + 1) + 1) + 1)).kind = 1
  rotate_left
  · go_at_call 86
    refine (p_kind_bad (G.out.run.rd HR.out) 1 q4).mono ?_
    rintro e w4 ⟨rfl, hf4⟩
    have HS2 := HS.out
    rw [nameP_at, if_neg q4] at HS2
    have HS2 := Lib.hid HS2
    clear q4
    have AZ := Lib.hid (G.out.run.fr.trans hf4)
    clear hf4
    go_wp2_with fail
    refine ⟨rfl, ?_⟩
    rw [HS2.out]
    exact ⟨AZ.out, rfl⟩
  have HK4 := Lib.hid (p_kind_ok (G.out.run.rd HR.out) 1 q4 (nx_lt (.inl (by rw [q4]; decide))))
  obtain ⟨t4, ht4⟩ : ∃ t, t = c.nx (((k + 1) + 1) + 1) := ⟨_, rfl⟩
  have HS2 := HS.out
  rw [nameP_at, if_pos q4, ← ht4] at HS2
  have HL4 := Lib.hid (at_step (c := c) (k := (((k + 1) + 1) + 1)) (nx_lt (.inl (by rw [q4]; decide))))
  rw [← ht4] at HK4
  have HS : Hid (Y = (need c.L [44] (c.at ((((k + 1) + 1) + 1) + 1))).then fun _ r => (binE fnd c.L m 1 0 r).then fun e r => (need c.L [41] r).then fun _ r => (need c.L [59] r).then fun _ r => .ok (St.mk 2 tx t4.text [e] [] [] tp) r) := HS2
  clear q4 ht4 HS2
  obtain ⟨nk4, nm4, nw4, np4⟩ := t4
  unfold tkV Par.ptr at HK4
  go_at_call 86
  refine (HK4.out).mono ?_
  rintro e w4 ⟨rfl, hf4, hR4⟩
  have G := Lib.hid (G.out.call hf4 hR4 hX.out)
  clear hf4 hR4
  have c2 := G.out.cell (i := 2) (v := .string ⟨#[]⟩) rfl
  have z2 := G.out.frozen 2
  have F1 := tok_f1
  go_wp2_with fail
  rw [show w4.setCell ⟨w.heap.size + 1 + 1, 2, none⟩ (.string nm4) = w4.setRow (w.heap.size + 1 + 1) #[.int .u8 2, .string tx, .string nm4, .slice none 0 0, .slice none 0 0, .slice none 0 0, .int .i64 0] from setCell_row G.out.st 2 _]
  have G := Lib.hid (G.out.row #[.int .u8 2, .string tx, .string nm4, .slice none 0 0, .slice none 0 0, .slice none 0 0, .int .i64 0] hX.out)
  clear c2 z2
  clear F1
  by_cases q5 : isT [44] (c.at (((((k + 1) + 1) + 1) + 1))) = true
  rotate_left
  · have q5' : isT [44] (c.at (((((k + 1) + 1) + 1) + 1))) = false := by simpa using q5
    go_at_call 88
    refine (p_take_bad (G.out.run.rd HR.out) ⟨#[44]⟩ (by decide) q5').mono ?_
    rintro e w5 ⟨rfl, hf5⟩
    have HS2 := HS.out
    rw [need_at, q5'] at HS2
    have HS2 := Lib.hid HS2
    clear q5 q5'
    have AZ := Lib.hid (G.out.run.fr.trans hf5)
    clear hf5
    go_wp2_with fail
    refine ⟨rfl, ?_⟩
    rw [HS2.out]
    exact ⟨AZ.out, rfl⟩
  go_at_call 88
  refine (p_take_ok (G.out.run.rd HR.out) ⟨#[44]⟩ (by decide) q5).mono ?_
  rintro e w5 ⟨rfl, hf5, hR5⟩
  have HS2 := HS.out
  rw [need_at, if_pos q5] at HS2
  have HS : Hid (Y = (binE fnd c.L m 1 0 (c.at (((((k + 1) + 1) + 1) + 1) + 1))).then fun e r => (need c.L [41] r).then fun _ r => (need c.L [59] r).then fun _ r => .ok (St.mk 2 tx nm4 [e] [] [] tp) r) := HS2
  have HL5 := Lib.hid (at_step (Par.isT_lt q5))
  have G := Lib.hid (G.out.call hf5 hR5 hX.out)
  clear HS2 q5 hf5 hR5
  go_wp2_with fail
  obtain ⟨Z6, hZ6⟩ : ∃ Z6, Z6 = binE fnd c.L m 1 0 (c.at (((((k + 1) + 1) + 1) + 1) + 1)) := ⟨_, rfl⟩
  have HC6 : Hid (∀ W, Rd c W (((((k + 1) + 1) + 1) + 1) + 1) → Calls Tryd.prog 87 #[.pointer (some ⟨c.X, 0, none⟩)] W (RdPost c W Z6 (fun e v w' => exsVal W.heap.size [e] v w'))) := fun W RW => by rw [hZ6]; exact p_value RW (by have := HM.out; have := HL1.out; have := HL2.out; have := HL3.out; have := HL4.out; have := HL5.out; omega)
  have HSH6 : Hid (∀ e r, Z6 = .ok e r → r.length < (c.at (((((k + 1) + 1) + 1) + 1) + 1)).length) := fun e r h => binE_short (hZ6.symm.trans h)
  have HS : Hid (Y = Z6.then fun e r => (need c.L [41] r).then fun _ r => (need c.L [59] r).then fun _ r => .ok (St.mk 2 tx nm4 [e] [] [] tp) r) := by first | (rw [Hid, HS.out, hZ6]; done) | (rw [Hid, HS.out, hZ6]; rfl) | (rw [Hid, HS.out, hZ6]; unfold parenP; rfl)
  clear hZ6
  go_at_call 87
  refine (HC6.out _ (G.out.run.rd HR.out)).mono ?_
  rintro e w6 ⟨hf6, hm6⟩
  rcases Z6 with ⟨e6, r6⟩ | ⟨p, q⟩
  rotate_left
  · obtain rfl := hm6
    have HS2 := HS
    have AZ := Lib.hid (G.out.run.fr.trans hf6)
    clear hf6
    go_wp2_with fail
    refine ⟨rfl, ?_⟩
    rw [HS2.out]
    exact ⟨AZ.out, rfl⟩
  obtain ⟨v6, j6, rfl, ⟨a6, cap6, rfl, hV6⟩, hR6, rfl⟩ := hm6
  have HS : Hid (Y = (need c.L [41] (c.at j6)).then fun _ r => (need c.L [59] r).then fun _ r => .ok (St.mk 2 tx nm4 [e6] [] [] tp) r) := HS.out
  have HL6 := Lib.hid (HSH6.out _ _ rfl)
  have V6 : Hid (exsAt (fun b => w.heap.size + 1 + 1 + 1 ≤ b) w6 [e6] a6) := Lib.hid (exsAt_mono hV6 (fun b hb => by have := G.out.st.lt; change _ ≤ _ at hb; omega))
  have G := Lib.hid (G.out.call hf6 hR6 hX.out)
  clear hf6 hR6 hV6
  have c3 := G.out.cell (i := 3) (v := .slice none 0 0) rfl
  have z3 := G.out.frozen 3
  go_wp2_with fail
  rw [show w6.setCell ⟨w.heap.size + 1 + 1, 3, none⟩ (.slice a6 1 cap6) = w6.setRow (w.heap.size + 1 + 1) #[.int .u8 2, .string tx, .string nm4, .slice a6 1 cap6, .slice none 0 0, .slice none 0 0, .int .i64 0] from setCell_row G.out.st 3 _]
  have V6 := Lib.hid (exsAt_row V6.out #[.int .u8 2, .string tx, .string nm4, .slice a6 1 cap6, .slice none 0 0, .slice none 0 0, .int .i64 0] (g := w.heap.size + 1 + 1) (by omega))
  have G := Lib.hid (G.out.row #[.int .u8 2, .string tx, .string nm4, .slice a6 1 cap6, .slice none 0 0, .slice none 0 0, .int .i64 0] hX.out)
  clear c3 z3
  by_cases q7 : isT [41] (c.at (j6)) = true
  rotate_left
  · have q7' : isT [41] (c.at (j6)) = false := by simpa using q7
    go_at_call 88
    refine (p_take_bad (G.out.run.rd HR.out) ⟨#[41]⟩ (by decide) q7').mono ?_
    rintro e w7 ⟨rfl, hf7⟩
    have HS2 := HS.out
    rw [need_at, q7'] at HS2
    have HS2 := Lib.hid HS2
    clear q7 q7'
    have AZ := Lib.hid (G.out.run.fr.trans hf7)
    clear hf7
    go_wp2_with fail
    refine ⟨rfl, ?_⟩
    rw [HS2.out]
    exact ⟨AZ.out, rfl⟩
  go_at_call 88
  refine (p_take_ok (G.out.run.rd HR.out) ⟨#[41]⟩ (by decide) q7).mono ?_
  rintro e w7 ⟨rfl, hf7, hR7⟩
  have HS2 := HS.out
  rw [need_at, if_pos q7] at HS2
  have HS : Hid (Y = (need c.L [59] (c.at (j6 + 1))).then fun _ r => .ok (St.mk 2 tx nm4 [e6] [] [] tp) r) := HS2
  have HL7 := Lib.hid (at_step (Par.isT_lt q7))
  have V6 := Lib.hid (exsAt_call V6.out hf7 (by have := hX.out; omega))
  have G := Lib.hid (G.out.call hf7 hR7 hX.out)
  clear HS2 q7 hf7 hR7
  go_wp2_with fail
  by_cases q8 : isT [59] (c.at ((j6 + 1))) = true
  rotate_left
  · have q8' : isT [59] (c.at ((j6 + 1))) = false := by simpa using q8
    go_at_call 88
    refine (p_take_bad (G.out.run.rd HR.out) ⟨#[59]⟩ (by decide) q8').mono ?_
    rintro e w8 ⟨rfl, hf8⟩
    have HS2 := HS.out
    rw [need_at, q8'] at HS2
    have HS2 := Lib.hid HS2
    clear q8 q8'
    have AZ := Lib.hid (G.out.run.fr.trans hf8)
    clear hf8
    go_wp2_with fail
    refine ⟨rfl, ?_⟩
    rw [HS2.out]
    exact ⟨AZ.out, rfl⟩
  go_at_call 88
  refine (p_take_ok (G.out.run.rd HR.out) ⟨#[59]⟩ (by decide) q8).mono ?_
  rintro e w8 ⟨rfl, hf8, hR8⟩
  have HS2 := HS.out
  rw [need_at, if_pos q8] at HS2
  have HS : Hid (Y = .ok (St.mk 2 tx nm4 [e6] [] [] tp) (c.at ((j6 + 1) + 1))) := HS2
  have HL8 := Lib.hid (at_step (Par.isT_lt q8))
  have V6 := Lib.hid (exsAt_call V6.out hf8 (by have := hX.out; omega))
  have G := Lib.hid (G.out.call hf8 hR8 hX.out)
  clear HS2 q8 hf8 hR8
  obtain ⟨WE, hWE⟩ : ∃ WE, Hid (WE = w8) := ⟨_, rfl⟩
  rw [← hWE.out]
  rw [← hWE.out] at G V6
  have OS := G.out.st
  have OR := G.out.res
  go_wp2_with (first | (refine ld rowSt rfl rfl rfl OS rfl ?_) | (refine st rowSt rfl rfl OR rfl rfl (by rfl) (by rfl) (by kernel_rfl) ?_))
  have hx := hX.out
  have AE := G.out.run.setRow (g := w.heap.size + 1) (by omega) (by omega) #[.int .u8 2, .string tx, .string nm4, .slice a6 1 cap6, .slice none 0 0, .slice none 0 0, .int .i64 0]
  refine p_ret rowSt rfl (OR.row #[.int .u8 2, .string tx, .string nm4, .slice a6 1 cap6, .slice none 0 0, .slice none 0 0, .int .i64 0]) rfl rfl rfl ?_
  rw [HS.out]
  exact ⟨AE.fr, _, ((j6 + 1) + 1), rfl, ⟨rfl, _, _, _, _, _, _, rfl, exsAt_mono (exsAt_row V6.out _ (g := w.heap.size + 1) (by omega)) (fun b hb => by omega), .inl rfl, .inl rfl⟩, AE.rd HR.out, rfl⟩
end Go.Proofs.YtjpmdafaaonpoaaDoor

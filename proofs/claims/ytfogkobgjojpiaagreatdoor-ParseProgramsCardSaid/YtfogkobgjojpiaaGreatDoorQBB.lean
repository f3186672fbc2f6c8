/- The proof, part 28: texts that belong together, in one. -/
import Derived.Test.YtfogkobgjojpiaaGreatDoorQBA
import Derived.Test.YtfogkobgjojpiaaGreatDoorQAK
set_option maxRecDepth 100000
set_option maxHeartbeats 20000000
namespace Go.Proofs.YtfogkobgjojpiaaGreatDoor
open Go.RowKit
set_option linter.unusedVariables false
structure Sr where
 ts : List Tk
 pos : Int
 rule : Int
def Sr.ok (σ : Sr) : Bool := σ.rule == 0
def hereM (L : Int) : List Tk → Tk
 | [] => ⟨0, ⟨#[]⟩, 0, L⟩
 | t :: _ => t
def Sr.fail (L : Int) (σ : Sr) (q : Int) : Sr := if σ.ok = true then ⟨σ.ts, (hereM L σ.ts).pos, q⟩ else σ
def Sr.step (σ : Sr) : Sr := ⟨σ.ts.tail, σ.pos, σ.rule⟩
def isK (L : Int) (s : Bs) (ts : List Tk) : Bool := ((hereM L ts).kind == 2 || (hereM L ts).kind == 4) && (hereM L ts).tx == s
def Sr.has (L : Int) (σ : Sr) (s : Bs) : Bool := σ.ok && isK L s σ.ts
def Sr.take (L : Int) (σ : Sr) (s : Bs) : Sr := if σ.has L s = true then σ.step else σ
def Sr.want (L : Int) (σ : Sr) (s : Bs) : Sr := if σ.has L s = true then σ.step else σ.fail L 2
def zE : Ex := .mk 0 0 0 ⟨#[]⟩ [] 0
section
variable (L : Int)
def Sr.goes (σ : Sr) (v : Int) : Bool := σ.ok && (hereM L σ.ts).kind == 4 && (fnd (hereM L σ.ts).tx).2 && decide (v ≤ levelI (fnd (hereM L σ.ts).tx).1)
def Sr.deepM (σ : Sr) (d : Int) : Sr := if ((isK L [45] σ.ts || isK L [33] σ.ts || isK L [40] σ.ts) && decide (64 ≤ d)) = true then σ.fail L 3 else σ
mutual
def exM : Nat → Int → Int → Sr → Ex × Sr
 | 0, _, _, σ => (zE, σ)
 | n + 1, v, d, σ => exLM n v d (unM n d σ).1 (unM n d σ).2
def exLM : Nat → Int → Int → Ex → Sr → Ex × Sr
 | 0, _, _, e, σ => (e, σ)
 | n + 1, v, d, e, σ =>
   if σ.goes L v = true then
    exLM n v d (biX (fnd (hereM L σ.ts).tx).1 (hereM L σ.ts).pos e (exM n (levelI (fnd (hereM L σ.ts).tx).1 + 1) d σ.step).1) (exM n (levelI (fnd (hereM L σ.ts).tx).1 + 1) d σ.step).2
   else (e, σ)
def unM : Nat → Int → Sr → Ex × Sr
 | 0, _, σ => (zE, σ)
 | n + 1, d, σ =>
   if (σ.deepM L d).ok = false then (zE, σ.deepM L d)
   else if (hereM L σ.ts).kind = 3 then (.mk 1 0 (hereM L σ.ts).wd ⟨#[]⟩ [] (hereM L σ.ts).pos, σ.step)
   else if (hereM L σ.ts).kind = 1 then (.mk 2 0 0 (hereM L σ.ts).text [] (hereM L σ.ts).pos, σ.step)
   else if isK L [40] σ.ts = true then ((exM n 1 (d + 1) σ.step).1, (exM n 1 (d + 1) σ.step).2.want L [41])
   else if isK L [45] σ.ts = true then (unX 17 (hereM L σ.ts).pos (unM n (d + 1) σ.step).1, (unM n (d + 1) σ.step).2)
   else if isK L [33] σ.ts = true then (unX 18 (hereM L σ.ts).pos (unM n (d + 1) σ.step).1, (unM n (d + 1) σ.step).2)
   else (zE, σ.fail L 2)
end
end
def fine (ts : List Tk) : Sr := ⟨ts, 0, 0⟩
theorem fine_ok (ts : List Tk) : (fine ts).ok = true := rfl
def Sr.At (σ : Sr) (p q : Int) : Prop := σ.pos = p ∧ σ.rule = q ∧ q ≠ 0
theorem Sr.At.bad {σ : Sr} {p q : Int} (h : σ.At p q) : σ.ok = false := by
 obtain ⟨_, h2, h3⟩ := h
 unfold Sr.ok
 rw [h2]; simpa using h3
theorem bad_fail {L : Int} {σ : Sr} (h : σ.ok = false) (q : Int) : σ.fail L q = σ := by unfold Sr.fail; rw [h]; rfl
theorem bad_has {L : Int} {σ : Sr} (h : σ.ok = false) (s : Bs) : σ.has L s = false := by unfold Sr.has; rw [h]; rfl
theorem bad_take {L : Int} {σ : Sr} (h : σ.ok = false) (s : Bs) : σ.take L s = σ := by unfold Sr.take; rw [bad_has h]; rfl
theorem bad_want {L : Int} {σ : Sr} (h : σ.ok = false) (s : Bs) : σ.want L s = σ := by unfold Sr.want; rw [bad_has h]; exact bad_fail h 2
theorem bad_deep {L : Int} {σ : Sr} (h : σ.ok = false) (d : Int) : σ.deepM L d = σ := by unfold Sr.deepM; split; exact bad_fail h 3; rfl
theorem bad_goes {L : Int} {σ : Sr} (h : σ.ok = false) (v : Int) : σ.goes L v = false := by unfold Sr.goes; rw [h]; rfl
theorem bad_expr {L : Int} : ∀ (n : Nat) {σ : Sr}, σ.ok = false → (∀ d, unM L n d σ = (zE, σ)) ∧ (∀ v d e, exLM L n v d e σ = (e, σ)) ∧ (∀ v d, exM L n v d σ = (zE, σ))
 | 0, σ, h => ⟨fun d => rfl, fun v d e => rfl, fun v d => rfl⟩
 | n + 1, σ, h => by
   obtain ⟨i1, i2, i3⟩ := bad_expr n (L := L) h
   refine ⟨fun d => ?_, fun v d e => ?_, fun v d => ?_⟩
   · simp only [unM]; rw [bad_deep h, if_pos h]
   · simp only [exLM]; rw [bad_goes h]; rfl
   · simp only [exM]; rw [i1, i2]
def PR.as {α : Type} (x : PR α) (y : α × Sr) : Prop := match x with
 | .ok a r => y = (a, fine r)
 | .bad p q => y.2.At p q
theorem fine_fail (L : Int) (ts : List Tk) {q : Int} (hq : q ≠ 0) : ((fine ts).fail L q).At (hdP L ts) q := by
 unfold Sr.fail
 rw [if_pos (fine_ok ts)]
 refine ⟨?_, rfl, hq⟩
 cases ts <;> rfl
theorem fine_has {L : Int} {ts : List Tk} (K : AllKd ts) {s : Bs} (g : Good s) : (fine ts).has L s = isT s ts := by
 unfold Sr.has isK
 rw [fine_ok]
 show (true && _) = _
 cases ts with
 | nil => rfl
 | cons t r =>
   show (true && ((t.kind == 2 || t.kind == 4) && t.tx == s)) = (t.tx == s)
   by_cases h : t.tx = s
   · have := K t (.head _)
     rw [h] at this
     rw [kd_good this g, h]; simp
   · rw [show (t.tx == s) = false by simpa using h]; simp
theorem fine_isK {L : Int} {ts : List Tk} (K : AllKd ts) {s : Bs} (g : Good s) : isK L s ts = isT s ts := by
 rw [← fine_has (L := L) K g]
 unfold Sr.has
 rw [fine_ok]; rfl
theorem fine_want {L : Int} {ts : List Tk} (K : AllKd ts) {s : Bs} (g : Good s) : (need L s ts).as ((), (fine ts).want L s) := by
 unfold need Sr.want
 rw [fine_has K g]
 split
 · rfl
 · exact fine_fail L ts (by decide)
theorem as_then {α β : Type} {x : PR α} {y : α × Sr} (h : x.as y) {f : α → List Tk → PR β} {g : α → Sr → β × Sr} (hf : ∀ a r, x = .ok a r → (f a r).as (g a (fine r))) (hb : ∀ a σ, σ.ok = false → (g a σ).2 = σ) : (x.then f).as (g y.1 y.2) := by
 cases x with
 | ok a r =>
   have h : y = (a, fine r) := h
   rw [h]
   exact hf a r rfl
 | bad p q =>
   have h : y.2.At p q := h
   show (g y.1 y.2).2.At p q
   rw [hb _ _ h.bad]
   exact h
theorem good_sub : Good [45] := ⟨by decide, .inl (by decide)⟩
theorem good_not : Good [33] := ⟨by decide, .inl (by decide)⟩
theorem good_par : Good [40] := ⟨by decide, .inl (by decide)⟩
theorem good_rap : Good [41] := ⟨by decide, .inl (by decide)⟩
def Sub (r ts : List Tk) : Prop := ∃ a, ts = a ++ r
theorem Sub.refl (ts : List Tk) : Sub ts ts := ⟨[], rfl⟩
theorem Sub.tail (t : Tk) (ts : List Tk) : Sub ts (t :: ts) := ⟨[t], rfl⟩
theorem Sub.trans {a b c : List Tk} (h : Sub a b) (k : Sub b c) : Sub a c := by
 obtain ⟨x, rfl⟩ := h
 obtain ⟨y, rfl⟩ := k
 exact ⟨y ++ x, by simp⟩
theorem Sub.kd {r ts : List Tk} (h : Sub r ts) (K : AllKd ts) : AllKd r := by
 obtain ⟨a, rfl⟩ := h
 exact fun t ht => K t (List.mem_append_right _ ht)
theorem need_sub {L : Int} {s : Bs} {ts : List Tk} {u : Unit} {r : List Tk} (h : need L s ts = .ok u r) : Sub r ts := by
 obtain ⟨h1, rfl, _⟩ := need_ok h
 cases ts with
 | nil => exact Sub.refl _
 | cons t r => exact Sub.tail t r
theorem expr_sub {fd : Bs → Int × Bool} {L : Int} : ∀ n : Nat,
 (∀ d ts e r, opnd fd L n d ts = .ok e r → Sub r ts) ∧
 (∀ v d ts e r, binE fd L n v d ts = .ok e r → Sub r ts) ∧
 (∀ v d l ts e r, binL fd L n v d l ts = .ok e r → Sub r ts) := by
 intro n
 induction n with
 | zero => exact ⟨fun d ts e r h => by simp [opnd] at h, fun v d ts e r h => by simp [binE] at h, fun v d l ts e r h => by simp [binL] at h⟩
 | succ n ih =>
   obtain ⟨i1, i2, i3⟩ := ih
   refine ⟨fun d ts e r h => ?_, fun v d ts e r h => ?_, fun v d l ts e r h => ?_⟩
   · cases ts with
     | nil => simp [opnd] at h
     | cons t q =>
       simp only [opnd] at h
       split at h
       · cases h; exact Sub.tail _ _
       split at h
       · cases h; exact Sub.tail _ _
       split at h
       · split at h
         · cases h
         · obtain ⟨a, b, h1, h2⟩ := PR.then_eq_ok h
           cases h2
           exact (i1 _ _ _ _ h1).trans (Sub.tail _ _)
       split at h
       · split at h
         · cases h
         · obtain ⟨a, b, h1, h2⟩ := PR.then_eq_ok h
           cases h2
           exact (i1 _ _ _ _ h1).trans (Sub.tail _ _)
       split at h
       · split at h
         · cases h
         · obtain ⟨a, b, h1, h2⟩ := PR.then_eq_ok h
           obtain ⟨u, c, h3, h4⟩ := PR.then_eq_ok h2
           cases h4
           exact ((need_sub h3).trans (i2 _ _ _ _ _ h1)).trans (Sub.tail _ _)
       · cases h
   · simp only [binE] at h
     obtain ⟨a, b, h1, h2⟩ := PR.then_eq_ok h
     exact (i3 _ _ _ _ _ _ h2).trans (i1 _ _ _ _ h1)
   · cases ts with
     | nil => simp only [binL] at h; cases h; exact Sub.refl _
     | cons t q =>
       simp only [binL] at h
       split at h
       · obtain ⟨a, b, h1, h2⟩ := PR.then_eq_ok h
         exact ((i3 _ _ _ _ _ _ h2).trans (i2 _ _ _ _ _ h1)).trans (Sub.tail _ _)
       · cases h; exact Sub.refl _
theorem isT_one {s : Bs} {t : Tk} {r : List Tk} : isT s (t :: r) = (t.tx == s) := rfl
theorem fine_deep {L : Int} {t : Tk} {r : List Tk} (K : AllKd (t :: r)) {d : Int} (hd : d ≤ 64) :
 (fine (t :: r)).deepM L d = if (t.tx = [45] ∨ t.tx = [33] ∨ t.tx = [40]) ∧ d = 64 then (fine (t :: r)).fail L 3 else fine (t :: r) := by
 unfold Sr.deepM
 show (if ((isK L [45] (t :: r) || isK L [33] (t :: r) || isK L [40] (t :: r)) && decide (64 ≤ d)) = true then _ else _) = _
 rw [fine_isK K good_sub, fine_isK K good_not, fine_isK K good_par, isT_one, isT_one, isT_one]
 by_cases h : (t.tx = [45] ∨ t.tx = [33] ∨ t.tx = [40]) ∧ d = 64
 · rw [if_pos h, if_pos]
   obtain ⟨h1, rfl⟩ := h
   rcases h1 with h1 | h1 | h1 <;> rw [h1] <;> rfl
 · rw [if_neg h, if_neg]
   intro hh
   apply h
   simp only [Bool.and_eq_true, Bool.or_eq_true, beq_iff_eq, decide_eq_true_eq] at hh
   exact ⟨by rcases hh.1 with (h1 | h1) | h1; exact .inl h1; exact .inr (.inl h1); exact .inr (.inr h1), by omega⟩
theorem expr_as {L : Int} : ∀ n : Nat,
 (∀ d ts, AllKd ts → 0 ≤ d → d ≤ 64 → 3 * ts.length + 1 ≤ n → (opnd fnd L n d ts).as (unM L n d (fine ts))) ∧
 (∀ v d ts, AllKd ts → 0 ≤ d → d ≤ 64 → 3 * ts.length + 2 ≤ n → (binE fnd L n v d ts).as (exM L n v d (fine ts))) ∧
 (∀ v d e ts, AllKd ts → 0 ≤ d → d ≤ 64 → 3 * ts.length + 1 ≤ n → (binL fnd L n v d e ts).as (exLM L n v d e (fine ts))) := by
 intro n
 induction n with
 | zero => exact ⟨fun d ts K h0 h1 h => by omega, fun v d ts K h0 h1 h => by omega, fun v d e ts K h0 h1 h => by omega⟩
 | succ n ih =>
   obtain ⟨i1, i2, i3⟩ := ih
   refine ⟨fun d ts K h0 h1 h => ?_, fun v d ts K h0 h1 h => ?_, fun v d e ts K h0 h1 h => ?_⟩
   · cases ts with
     | nil =>
       have e : unM L (n + 1) d (fine []) = (zE, (fine []).fail L 2) := by
        simp only [unM]
        have : (fine []).deepM L d = fine [] := rfl
        rw [this]
        rfl
       rw [e]
       exact fine_fail L [] (by decide)
     | cons t r =>
       simp only [List.length_cons] at h
       have Kr : AllKd r := K.tail
       have hst : (fine (t :: r)).step = fine r := rfl
       have hh : hereM L (fine (t :: r)).ts = t := rfl
       simp only [opnd, unM]
       rw [hst, hh, fine_deep K h1]
       have q40 : isK L [40] (fine (t :: r)).ts = (t.tx == [40]) := fine_isK K good_par
       have q45 : isK L [45] (fine (t :: r)).ts = (t.tx == [45]) := fine_isK K good_sub
       have q33 : isK L [33] (fine (t :: r)).ts = (t.tx == [33]) := fine_isK K good_not
       rw [q40, q45, q33]
       have no3 : (t.tx = [45] ∨ t.tx = [33] ∨ t.tx = [40]) → ¬ t.kind = 3 ∧ ¬ t.kind = 1 := by
        intro hx
        have k := K t (.head _)
        have : (t.kind == 2 || t.kind == 4) = true := by
         rcases hx with hx | hx | hx
         · exact kd_good (hx ▸ k) good_sub
         · exact kd_good (hx ▸ k) good_not
         · exact kd_good (hx ▸ k) good_par
        simp only [Bool.or_eq_true, beq_iff_eq] at this
        omega
       by_cases hx : t.tx = [45] ∨ t.tx = [33] ∨ t.tx = [40]
       · obtain ⟨n3, n1⟩ := no3 hx
         by_cases hd : d = 64
         · subst hd
           rw [if_pos (show (t.tx = [45] ∨ t.tx = [33] ∨ t.tx = [40]) ∧ (64 : Int) = 64 from ⟨hx, rfl⟩)]
           have hf := fine_fail L (t :: r) (q := 3) (by decide)
           rw [if_pos hf.bad, if_neg n3, if_neg n1]
           have goal : (PR.bad t.pos 3 : PR Ex).as (zE, (fine (t :: r)).fail L 3) := hf
           rcases hx with hx | hx | hx
           · rw [if_pos hx, if_pos rfl]; exact goal
           · rw [if_neg (by rw [hx]; decide), if_pos hx, if_pos rfl]; exact goal
           · rw [if_neg (by rw [hx]; decide), if_neg (by rw [hx]; decide), if_pos hx, if_pos rfl]; exact goal
         · rw [if_neg (show ¬ ((t.tx = [45] ∨ t.tx = [33] ∨ t.tx = [40]) ∧ d = 64) from fun c => hd c.2), if_neg (show ¬ (fine (t :: r)).ok = false by rw [fine_ok]; decide), if_neg n3, if_neg n1, if_neg n3, if_neg n1]
           rcases hx with hx | hx | hx
           · rw [if_pos hx, if_neg hd, if_neg (by rw [hx]; decide), if_pos (by rw [hx]; rfl)]
             exact as_then (g := fun e σ => (unX 17 t.pos e, σ)) (i1 (d + 1) r Kr (by omega) (by omega) (by omega)) (fun a r' _ => rfl) (fun a σ _ => rfl)
           · rw [if_neg (by rw [hx]; decide), if_pos hx, if_neg hd, if_neg (by rw [hx]; decide), if_neg (by rw [hx]; decide), if_pos (by rw [hx]; rfl)]
             exact as_then (g := fun e σ => (unX 18 t.pos e, σ)) (i1 (d + 1) r Kr (by omega) (by omega) (by omega)) (fun a r' _ => rfl) (fun a σ _ => rfl)
           · rw [if_neg (by rw [hx]; decide), if_neg (by rw [hx]; decide), if_pos hx, if_neg hd, if_pos (by rw [hx]; rfl)]
             exact as_then (g := fun e σ => (e, σ.want L [41])) (i2 1 (d + 1) r Kr (by omega) (by omega) (by omega)) (fun a r' hr => by
              have hk := ((expr_sub n).2.1 _ _ _ _ _ hr).kd Kr
              exact as_then (g := fun _ σ => (a, σ)) (fine_want hk good_rap) (fun a r' _ => rfl) (fun a σ _ => rfl)) (fun a σ h => bad_want h _)
       · have hx' : ¬ t.tx = [45] ∧ ¬ t.tx = [33] ∧ ¬ t.tx = [40] := ⟨fun e => hx (.inl e), fun e => hx (.inr (.inl e)), fun e => hx (.inr (.inr e))⟩
         rw [if_neg (show ¬ ((t.tx = [45] ∨ t.tx = [33] ∨ t.tx = [40]) ∧ d = 64) from fun c => hx c.1), if_neg (show ¬ (fine (t :: r)).ok = false by rw [fine_ok]; decide)]
         by_cases n3 : t.kind = 3
         · rw [if_pos n3, if_pos n3]; rfl
         · rw [if_neg n3, if_neg n3]
           by_cases n1 : t.kind = 1
           · rw [if_pos n1, if_pos n1]; rfl
           · rw [if_neg n1, if_neg n1, if_neg hx'.1, if_neg hx'.2.1, if_neg hx'.2.2, if_neg (by simpa using hx'.2.2), if_neg (by simpa using hx'.1), if_neg (by simpa using hx'.2.1)]
             exact fine_fail L (t :: r) (by decide)
   · simp only [binE, exM]
     exact as_then (g := fun e σ => exLM L n v d e σ) (i1 d ts K h0 h1 (by omega)) (fun a r hr => by
      have hs := opnd_short hr
      exact i3 v d a r (((expr_sub n).1 _ _ _ _ hr).kd K) h0 h1 (by omega)) (fun a σ hb => by rw [(bad_expr n hb).2.1])
   · cases ts with
     | nil =>
       simp only [binL, exLM]
       have : (fine []).goes L v = false := rfl
       rw [this]; rfl
     | cons t r =>
       simp only [List.length_cons] at h
       have Kr : AllKd r := K.tail
       have hst : (fine (t :: r)).step = fine r := rfl
       have hh : hereM L (fine (t :: r)).ts = t := rfl
       simp only [binL, exLM]
       rw [hst, hh]
       have hg : (fine (t :: r)).goes L v = ((fnd t.tx).2 && decide (v ≤ levelI (fnd t.tx).1)) := by
        unfold Sr.goes
        rw [fine_ok, hh]
        by_cases hf : (fnd t.tx).2 = true
        · rw [kd_fnd (K t (.head _)) hf]; rfl
        · rw [show (fnd t.tx).2 = false by simpa using hf]; simp
       rw [hg]
       by_cases hc : (fnd t.tx).2 = true ∧ v ≤ levelI (fnd t.tx).1
       · rw [if_pos hc, if_pos (by simpa using hc)]
         exact as_then (g := fun f σ => exLM L n v d (biX (fnd t.tx).1 t.pos e f) σ) (i2 (levelI (fnd t.tx).1 + 1) d r Kr h0 h1 (by omega)) (fun a r' hr => by
          have hs := binE_short hr
          exact i3 v d _ r' (((expr_sub n).2.1 _ _ _ _ _ hr).kd Kr) h0 h1 (by omega)) (fun a σ hb => by rw [(bad_expr n hb).2.1])
       · rw [if_neg hc, if_neg (by simpa using hc)]; rfl
open Go.RowKit
set_option linter.unusedVariables false
theorem fail_ok {L : Int} {σ : Sr} {q : Int} (hq : q ≠ 0) : (σ.fail L q).ok = false := by
 unfold Sr.fail
 split
 · unfold Sr.ok; simpa using hq
 · rename_i h; simpa using h
theorem has_ne {L : Int} {σ : Sr} {s : Bs} (h : σ.has L s = true) : σ.ok = true ∧ σ.step.ts.length + 1 = σ.ts.length := by
 unfold Sr.has isK at h
 simp only [Bool.and_eq_true, Bool.or_eq_true, beq_iff_eq] at h
 refine ⟨h.1, ?_⟩
 obtain ⟨ts, p, q⟩ := σ
 cases ts with
 | nil => simp [hereM] at h
 | cons t r => rfl
theorem want_ok {L : Int} {σ : Sr} {s : Bs} (h : (σ.want L s).ok = true) : σ.has L s = true ∧ σ.want L s = σ.step := by
 unfold Sr.want at h ⊢
 split at h
 · rename_i hh; rw [if_pos hh]; exact ⟨hh, rfl⟩
 · rw [fail_ok (by decide)] at h; cases h
theorem isK_ne {L : Int} {s : Bs} {ts : List Tk} (h : isK L s ts = true) : ts.tail.length + 1 = ts.length := by
 unfold isK at h
 simp only [Bool.and_eq_true, Bool.or_eq_true, beq_iff_eq] at h
 cases ts with
 | nil => simp [hereM] at h
 | cons t r => rfl
theorem kind_ne {L : Int} {ts : List Tk} {k : Int} (h : (hereM L ts).kind = k) (hk : k ≠ 0) : ts.tail.length + 1 = ts.length := by
 cases ts with
 | nil => exact absurd h.symm hk
 | cons t r => rfl
theorem deep_ok {L : Int} {σ : Sr} {d : Int} (h : (σ.deepM L d).ok = true) : σ.ok = true ∧ σ.deepM L d = σ := by
 unfold Sr.deepM at h ⊢
 split at h
 · rw [fail_ok (by decide)] at h; cases h
 · rename_i hh; rw [if_neg hh]; exact ⟨h, rfl⟩
theorem goes_ne {L : Int} {σ : Sr} {v : Int} (h : σ.goes L v = true) : σ.ok = true ∧ σ.step.ts.length + 1 = σ.ts.length := by
 unfold Sr.goes at h
 simp only [Bool.and_eq_true, beq_iff_eq] at h
 exact ⟨h.1.1.1, kind_ne h.1.1.2 (by decide)⟩
theorem expr_len {L : Int} : ∀ n : Nat,
 (∀ d σ, (unM L n d σ).2.ok = true → σ.ok = true ∧ (unM L n d σ).2.ts.length + min n 1 ≤ σ.ts.length) ∧
 (∀ v d σ, (exM L n v d σ).2.ok = true → σ.ok = true ∧ (exM L n v d σ).2.ts.length ≤ σ.ts.length) ∧
 (∀ v d e σ, (exLM L n v d e σ).2.ok = true → σ.ok = true ∧ (exLM L n v d e σ).2.ts.length ≤ σ.ts.length) := by
 intro n
 induction n with
 | zero => exact ⟨fun d σ h => ⟨h, by show σ.ts.length + 0 ≤ _; omega⟩, fun v d σ h => ⟨h, Nat.le_refl _⟩, fun v d e σ h => ⟨h, Nat.le_refl _⟩⟩
 | succ n ih =>
   obtain ⟨i1, i2, i3⟩ := ih
   refine ⟨fun d σ h => ?_, fun v d σ h => ?_, fun v d e σ h => ?_⟩
   · have hm : min (n + 1) 1 = 1 := by omega
     rw [hm]
     simp only [unM] at h ⊢
     split at h
     · rename_i h0
       rw [h0] at h; cases h
     rename_i h0
     rw [if_neg h0]
     have hok := (deep_ok (by simpa using h0)).1
     split at h
     · rename_i h3
       rw [if_pos h3]
       exact ⟨hok, by have := kind_ne h3 (by decide); show σ.ts.tail.length + 1 ≤ _; omega⟩
     rename_i h3
     rw [if_neg h3]
     split at h
     · rename_i h1
       rw [if_pos h1]
       exact ⟨hok, by have := kind_ne h1 (by decide); show σ.ts.tail.length + 1 ≤ _; omega⟩
     rename_i h1
     rw [if_neg h1]
     split at h
     · rename_i q
       rw [if_pos q]
       have := isK_ne q
       obtain ⟨k1, k2⟩ := want_ok h
       obtain ⟨k3, k4⟩ := has_ne k1
       have := (i2 1 (d + 1) σ.step k3).2
       have e : σ.step.ts.length = σ.ts.tail.length := rfl
       show _ ∧ ((exM L n 1 (d + 1) σ.step).2.want L [41]).ts.length + 1 ≤ _
       rw [k2]
       exact ⟨hok, by omega⟩
     rename_i q
     rw [if_neg q]
     split at h
     · rename_i q
       rw [if_pos q]
       have := isK_ne q
       have := (i1 (d + 1) σ.step h).2
       have e : σ.step.ts.length = σ.ts.tail.length := rfl
       exact ⟨hok, by show (unM L n (d + 1) σ.step).2.ts.length + 1 ≤ _; omega⟩
     rename_i q
     rw [if_neg q]
     split at h
     · rename_i q
       rw [if_pos q]
       have := isK_ne q
       have := (i1 (d + 1) σ.step h).2
       have e : σ.step.ts.length = σ.ts.tail.length := rfl
       exact ⟨hok, by show (unM L n (d + 1) σ.step).2.ts.length + 1 ≤ _; omega⟩
     · rw [fail_ok (by decide)] at h; cases h
   · simp only [exM] at h ⊢
     have a := i3 _ _ _ _ h
     have b := i1 _ _ a.1
     exact ⟨b.1, by have := a.2; have := b.2; omega⟩
   · simp only [exLM] at h ⊢
     split at h
     · rename_i hg
       rw [if_pos hg]
       obtain ⟨g1, g2⟩ := goes_ne hg
       have a := i3 _ _ _ _ h
       have b := i2 _ _ _ a.1
       exact ⟨g1, by have := a.2; have := b.2; omega⟩
     · rename_i hg
       rw [if_neg hg]
       exact ⟨h, Nat.le_refl _⟩
theorem ex_len {L : Int} {n : Nat} {v d : Int} {σ : Sr} (h : (exM L n v d σ).2.ok = true) : σ.ok = true ∧ (exM L n v d σ).2.ts.length ≤ σ.ts.length := (expr_len (L := L) n).2.1 v d σ h
open Go.RowKit
set_option linter.unusedVariables false
def Par.rrow (c : Par) (k : Nat) (p q : Int) : Obj := .cells #[.slice c.ta c.toks.length c.cap, .int .i64 (k : Int), .int .i64 (c.L : Int), .int .i64 p, .int .i64 q] 61 (0, 0)
structure RkS (c : Par) (w : World) : Prop where
 tok : TokRow w (.slice c.ta c.toks.length c.cap) c.toks
 tne : ∀ g off, c.ta = some ⟨g, off, none⟩ → g ≠ c.X
 small : c.toks.length ≤ 65536 ∧ c.L ≤ 65536 ∧ ∀ x ∈ c.toks, 0 ≤ x.wd ∧ x.wd ≤ 9223372036854775807
structure Rk (c : Par) (w : World) (k : Nat) (p q : Int) : Prop where
 s : RkS c w
 pos : w.heap[c.X]? = some (c.rrow k p q)
 le : k ≤ c.toks.length
structure Ak (c : Par) (w W : World) (k : Nat) (p q : Int) : Prop where
 fr : Fr c w W
 pos : W.heap[c.X]? = some (c.rrow k p q)
 le : k ≤ c.toks.length
theorem RkS.keep {c : Par} {w w' : World} (h : RkS c w) (k : Fr c w w') : RkS c w' := by
 obtain ⟨tok, tne, small⟩ := h
 refine ⟨?_, tne, small⟩
 obtain ⟨oa, cap, hu, hc⟩ := tok
 refine ⟨oa, cap, hu, fun i x hx => ?_⟩
 obtain ⟨g, off, ho, a0, a1, a2, a3⟩ := hc i x hx
 have hg : g < w.heap.size := lt_of_at a0
 obtain ⟨rfl, _, _⟩ : c.ta = oa ∧ c.toks.length = c.toks.length ∧ c.cap = cap := by cases hu; exact ⟨rfl, rfl, rfl⟩
 have hx := tne g off ho
 exact ⟨g, off, ho, (k.cell hg hx).trans a0, (k.cell hg hx).trans a1, (k.cell hg hx).trans a2, (k.cell hg hx).trans a3⟩
section
variable {c : Par} {w W W' : World} {k k' : Nat} {p q p' q' : Int}
theorem Rk.lt (h : Rk c w k p q) : c.X < w.heap.size := (Array.getElem?_eq_some_iff.1 h.pos).1
theorem Rk.below (h : Rk c w k p q) (hb : Below w.heap.size w W) : Rk c W k p q := ⟨h.s.keep (.of_below hb), by rw [hb.block _ h.lt]; exact h.pos, h.le⟩
theorem Ak.start (R : Rk c w k p q) : Ak c w w k p q := ⟨Fr.refl c w, R.pos, R.le⟩
theorem Ak.rd (A : Ak c w W k' p' q') (R : Rk c w k p q) : Rk c W k' p' q' := ⟨R.s.keep A.fr, A.pos, A.le⟩
theorem Ak.lt (A : Ak c w W k p q) : c.X < W.heap.size := (Array.getElem?_eq_some_iff.1 A.pos).1
theorem Ak.alloc (A : Ak c w W k p q) (o : Obj) : Ak c w (W.alloc o) k p q :=
 ⟨A.fr.alloc o, ((Below.refl _ W).alloc (Nat.le_refl _) o).block _ A.lt |>.trans A.pos, A.le⟩
theorem Ak.below (A : Ak c w W k p q) (h : Below W.heap.size W W') : Ak c w W' k p q := ⟨A.fr.trans (.of_below h), (h.block _ A.lt).trans A.pos, A.le⟩
theorem Ak.setRow (A : Ak c w W k p q) {g : Nat} (hg : w.heap.size ≤ g) (hx : c.X ≠ g) (cs : Array Value) : Ak c w (W.setRow g cs) k p q :=
 ⟨A.fr.setRow hg cs, (setRow_other cs hx).trans A.pos, A.le⟩
theorem Ak.drewN (A : Ak c w W k p q) (n : Nat) : Ak c w (W.drewN n) k p q := ⟨Keep.drewN A.fr n, A.pos, A.le⟩
theorem Ak.drew (A : Ak c w W k p q) : Ak c w W.drew k p q := ⟨Keep.drewN A.fr 1, A.pos, A.le⟩
theorem Ak.step (A : Ak c w W k p q) (hk : k < c.toks.length) : Ak c w (W.setCell ⟨c.X, 1, none⟩ (.int .i64 ((k : Int) + 1))) (k + 1) p q := by
 refine ⟨A.fr.setX _ 1 A.pos, ?_, hk⟩
 rw [heap_setCell_same W c.X 1 _ _ (.int .i64 ((k : Int) + 1)) A.pos]
 rfl
theorem Ak.flt (A : Ak c w W k p q) (p2 q2 : Int) : Ak c w ((W.setCell ⟨c.X, 3, none⟩ (.int .i64 p2)).setCell ⟨c.X, 4, none⟩ (.int .i64 q2)) k p2 q2 := by
 have h1 := heap_setCell_same W c.X 3 _ _ (.int .i64 p2) A.pos
 refine ⟨(A.fr.setX _ 3 A.pos).setX _ 4 h1, ?_, A.le⟩
 rw [heap_setCell_same _ c.X 4 _ _ (.int .i64 q2) h1]
 rfl
theorem Ak.cells (A : Ak c w W k p q) :
 (W.cell? ⟨c.X, 0, none⟩ = some (.slice c.ta c.toks.length c.cap) ∧ W.cell? ⟨c.X, 1, none⟩ = some (.int .i64 (k : Int)) ∧ W.cell? ⟨c.X, 2, none⟩ = some (.int .i64 (c.L : Int)) ∧
  W.cell? ⟨c.X, 3, none⟩ = some (.int .i64 p) ∧ W.cell? ⟨c.X, 4, none⟩ = some (.int .i64 q)) ∧ ∀ o, W.frozen? ⟨c.X, o, none⟩ = false := by
 have hp := A.pos
 refine ⟨⟨?_, ?_, ?_, ?_, ?_⟩, fun o => ?_⟩
 · rw [cell_of_row W c.X 0 _ _ _ hp]; rfl
 · rw [cell_of_row W c.X 1 _ _ _ hp]; rfl
 · rw [cell_of_row W c.X 2 _ _ _ hp]; rfl
 · rw [cell_of_row W c.X 3 _ _ _ hp]; rfl
 · rw [cell_of_row W c.X 4 _ _ _ hp]; rfl
 · simp only [World.frozen?, hp]; rfl
end
def Rs (c : Par) (w : World) (σ : Sr) : Prop := ∃ k, Rk c w k σ.pos σ.rule ∧ σ.ts = c.at k
theorem here_nx (c : Par) (k : Nat) : hereM c.L (c.at k) = c.nx k := by
 unfold hereM Par.nx
 cases c.at k <;> rfl
theorem r_ok {c : Par} {w : World} {k : Nat} {p q : Int} (R : Rk c w k p q) :
 Calls Tryz.prog 29 #[c.ptr] w fun e w' => e = .returned (.bool (q == 0)) ∧ Below w.heap.size w w' := by
 obtain ⟨⟨_, _, _, _, c4⟩, _⟩ := (Ak.start R).cells
 have hX := R.lt
 clear R
 unfold Par.ptr
 go_enter Tryz.func29, Tryz.ntmps29
 go_wp2
 go_ret
 exact ⟨rfl, Below.refl _ w⟩
theorem r_here {c : Par} {w : World} {k : Nat} {p q : Int} (R : Rk c w k p q) :
 Calls Tryz.prog 121 #[c.ptr] w fun e w' => e = .returned (tkV (c.nx k)) ∧ Below w.heap.size w w' := by
 obtain ⟨⟨c0, c1, c2, _⟩, f⟩ := (Ak.start R).cells
 have hX := R.lt
 have hle := R.le
 have hsm := R.s.small.1
 by_cases hk : k < c.toks.length
 · have hnx : c.nx k = (c.toks[k]).tk := by unfold Par.nx; rw [Par.at_lt hk]
   obtain ⟨oa, cap, hu, htok⟩ := R.s.tok
   obtain ⟨g, off, ho, a0, a1, a2, a3⟩ := htok k c.toks[k] (List.getElem?_eq_getElem hk)
   obtain ⟨hta, _⟩ : c.ta = oa ∧ True := by cases hu; exact ⟨rfl, trivial⟩
   obtain ⟨x, hx⟩ : ∃ x, x = c.toks[k] := ⟨_, rfl⟩
   rw [← hx] at a0 a1 a2 a3 hnx
   obtain ⟨rk, rx, rw0, rp, ra, rr⟩ := x
   simp only at a0 a1 a2 a3
   rw [hnx]
   subst hta
   rw [ho] at c0
   have hkk : (k : Int) < (c.toks.length : Int) := by omega
   obtain ⟨n, hn⟩ : ∃ n, n = c.toks.length := ⟨_, rfl⟩
   rw [← hn] at c0 hkk hk hle hsm
   have hg := lt_of_at a0
   clear hnx htok hu ho hx hn R
   unfold Par.ptr
   go_enter Tryz.func121, Tryz.ntmps121
   go_wp2
   go_quiet (fail)
   go_wp2
   go_region
   go_wp2
   refine bodyPost_ret (v := tkV ⟨rk, rx, rw0, rp⟩) (by simp [results, Tryz.results121, go_sem, tkV]) rfl ⟨rfl, ?_⟩
   repeat (first | exact Below.refl _ _ | refine below_drewN ?_ _ | refine Below.setCell ?_ (by simp) _ | refine Below.alloc ?_ (by simp) _)
 · have hnx : c.nx k = ⟨0, ⟨#[]⟩, 0, c.L⟩ := by unfold Par.nx; rw [Par.at_end (by omega)]
   rw [hnx]
   have hkk : decide ((k : Int) < (c.toks.length : Int)) = false := b_f (by omega)
   have hkn : decide (k < c.toks.length) = false := b_f (by omega)
   obtain ⟨n, hn⟩ : ∃ n, n = c.toks.length := ⟨_, rfl⟩
   rw [← hn] at c0 hkk hk hle hsm hkn
   obtain ⟨L, hL⟩ : ∃ L, L = c.L := ⟨_, rfl⟩
   rw [← hL] at c2 ⊢
   clear hnx hn hL R
   unfold Par.ptr
   go_enter Tryz.func121, Tryz.ntmps121
   go_wp2
   go_quiet (fail)
   go_wp2
   refine bodyPost_ret (v := tkV ⟨0, ⟨#[]⟩, 0, L⟩) (by simp [results, Tryz.results121, go_sem, tkV]) rfl ⟨rfl, ?_⟩
   repeat (first | exact Below.refl _ _ | refine below_drewN ?_ _ | refine Below.setCell ?_ (by simp) _ | refine Below.alloc ?_ (by simp) _)
end Go.Proofs.YtfogkobgjojpiaaGreatDoor

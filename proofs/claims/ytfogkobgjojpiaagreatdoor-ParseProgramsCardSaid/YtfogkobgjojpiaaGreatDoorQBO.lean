/- The proof, part 41: texts that belong together, in one. -/
import Derived.Test.YtfogkobgjojpiaaGreatDoorQBG
set_option maxRecDepth 100000
set_option maxHeartbeats 20000000
namespace Go.Proofs.YtfogkobgjojpiaaGreatDoor
open Go.RowKit
set_option linter.unusedVariables false
section
variable {L : Int}
theorem g_eq : Good [61] := ⟨by decide, .inl (by decide)⟩
theorem g_comma : Good [44] := ⟨by decide, .inl (by decide)⟩
theorem g_semi : Good [59] := ⟨by decide, .inl (by decide)⟩
theorem g_lbr : Good [123] := ⟨by decide, .inl (by decide)⟩
theorem g_rbr : Good [125] := ⟨by decide, .inl (by decide)⟩
theorem g_swap : Good [115, 119, 97, 112] := ⟨by decide, .inr (by decide)⟩
theorem g_if : Good [105, 102] := ⟨by decide, .inr (by decide)⟩
theorem g_else : Good [101, 108, 115, 101] := ⟨by decide, .inr (by decide)⟩
theorem g_while : Good [119, 104, 105, 108, 101] := ⟨by decide, .inr (by decide)⟩
theorem g_lock : Good [108, 111, 99, 107] := ⟨by decide, .inr (by decide)⟩
theorem g_print : Good [112, 114, 105, 110, 116] := ⟨by decide, .inr (by decide)⟩
theorem g_skip : Good [115, 107, 105, 112] := ⟨by decide, .inr (by decide)⟩
theorem g_local : Good [108, 111, 99, 97, 108] := ⟨by decide, .inr (by decide)⟩
theorem g_thread : Good [116, 104, 114, 101, 97, 100] := ⟨by decide, .inr (by decide)⟩
theorem g_shared : Good [115, 104, 97, 114, 101, 100] := ⟨by decide, .inr (by decide)⟩
theorem fine_step (ts : List Tk) : (fine ts).step = fine ts.tail := rfl
theorem at_has {σ : Sr} {p q : Int} (h : σ.At p q) (s : Bs) : σ.has L s = false := bad_has h.bad s
theorem name_as (ts : List Tk) : (nameP L ts).as (nameM L (fine ts)) := by
 unfold nameM
 cases ts with
 | nil => rw [if_neg (by show ¬ (_ ∧ (0 : Int) = 1); simp)]; exact fine_fail L [] (by decide)
 | cons t r =>
   simp only [nameP]
   by_cases h : t.kind = 1
   · rw [if_pos h, if_pos ⟨fine_ok _, h⟩]; rfl
   · rw [if_neg h, if_neg (fun e => h e.2)]; exact fine_fail L (t :: r) (by decide)
theorem num_as (ts : List Tk) : (numP L ts).as ((hereM L ts).wd, numS L (fine ts)) := by
 unfold numS
 cases ts with
 | nil => rw [if_pos (by show ¬ (0 : Int) = 3; decide)]; exact fine_fail L [] (by decide)
 | cons t r =>
   have hh : hereM L (fine (t :: r)).ts = t := rfl
   simp only [numP]
   rw [hh]
   by_cases h : t.kind = 3
   · rw [if_pos h, if_neg (show ¬ ¬ t.kind = 3 from fun e => e h)]; rfl
   · rw [if_neg h, if_pos h]; exact fine_fail L (t :: r) (by decide)
theorem first_as {ts : List Tk} (K : AllKd ts) : (firstP L ts).as (firstM L (fine ts)) := by
 unfold firstP firstM
 have hn := name_as (L := L) ts
 cases hx : nameP L ts with
 | bad p q =>
   rw [hx] at hn
   have hn : (nameM L (fine ts)).2.At p q := hn
   rw [if_neg (by rw [at_has hn]; decide)]
   exact hn
 | ok d r =>
   rw [hx] at hn
   have hn : nameM L (fine ts) = (d, fine r) := hn
   have Kr := (name_sub hx).kd K
   have Kt := Kr.tail
   rw [hn]
   simp only [PR.then_ok]
   rw [fine_has Kr g_eq]
   by_cases h1 : isT [61] r = true
   · rw [if_pos h1, if_pos h1, fine_step, fine_has Kt good_sub]
     by_cases h2 : isT [45] r.tail = true
     · rw [if_pos h2, if_pos h2]
       exact as_then (y := ((hereM L r.tail.tail).wd, numS L (fine r.tail.tail))) (g := fun v σ => (Dc.mk d.name (-v) d.pos, σ)) (num_as _) (fun a r' _ => rfl) (fun a σ _ => rfl)
     · rw [if_neg h2, if_neg h2]
       exact as_then (y := ((hereM L r.tail).wd, numS L (fine r.tail))) (g := fun v σ => (Dc.mk d.name v d.pos, σ)) (num_as _) (fun a r' _ => rfl) (fun a σ _ => rfl)
   · rw [if_neg h1, if_neg h1]; rfl
theorem list_as {one : List Tk → PR Dc} {oneM : Sr → Dc × Sr} (ho : ∀ ts, AllKd ts → (one ts).as (oneM (fine ts))) (hs : ∀ ts d r, one ts = .ok d r → Sub r ts ∧ r.length < ts.length) :
 ∀ (n : Nat) (acc : List Dc) (ts : List Tk), AllKd ts → ts.length < n → (listP L one n acc ts).as (listM L oneM n acc (fine ts))
 | 0, acc, ts, K, h => by omega
 | n + 1, acc, ts, K, h => by
   unfold listM
   simp only [listP, listL]
   rw [if_pos (fine_ok ts)]
   have h1 := ho ts K
   cases hx : one ts with
   | bad p q =>
     rw [hx] at h1
     have h1 : (oneM (fine ts)).2.At p q := h1
     rw [if_neg (by rw [at_has h1]; decide)]
     show Sr.At _ _ _
     simp only
     rw [bad_want h1.bad]
     exact h1
   | ok d r =>
     rw [hx] at h1
     have h1 : oneM (fine ts) = (d, fine r) := h1
     obtain ⟨hsub, hlt⟩ := hs _ _ _ hx
     have Kr := hsub.kd K
     rw [h1]
     simp only [PR.then_ok]
     rw [fine_has Kr g_comma]
     by_cases h2 : isT [44] r = true
     · rw [if_pos h2, if_pos h2, fine_step]
       have := isT_tail h2
       exact list_as ho hs n _ r.tail Kr.tail (by omega)
     · rw [if_neg h2, if_neg h2]
       exact as_then (y := ((), (fine r).want L [59])) (g := fun _ σ => (acc ++ [d], σ)) (fine_want Kr g_semi) (fun a r' _ => rfl) (fun a σ _ => rfl)
theorem names_as {n : Nat} {acc : List Dc} {ts : List Tk} (K : AllKd ts) (h : ts.length < n) : (listP L (nameP L) n acc ts).as (listM L (nameM L) n acc (fine ts)) :=
 list_as (fun ts _ => name_as ts) (fun ts d r h => ⟨name_sub h, nameP_short h⟩) n acc ts K h
theorem firsts_as {n : Nat} {acc : List Dc} {ts : List Tk} (K : AllKd ts) (h : ts.length < n) : (listP L (firstP L) n acc ts).as (listM L (firstM L) n acc (fine ts)) :=
 list_as (fun ts K => first_as K) (fun ts d r h => ⟨first_sub h, firstP_short h⟩) n acc ts K h
theorem ex_as {n : Nat} {ts : List Tk} (K : AllKd ts) (h : 3 * ts.length + 2 ≤ n) : (binE fnd L n 1 0 ts).as (exM L n 1 0 (fine ts)) := (expr_as n).2.1 1 0 ts K (by decide) (by decide) h
theorem want_then {α : Type} {ts : List Tk} (K : AllKd ts) {s : Bs} (g : Good s) {f : Unit → List Tk → PR α} {y : Sr → α × Sr} (hf : ∀ r, Sub r ts → r.length + 1 = ts.length → (f () r).as (y (fine r))) (hb : ∀ σ, σ.ok = false → (y σ).2 = σ) : ((need L s ts).then f).as (y ((fine ts).want L s)) :=
 as_then (y := ((), (fine ts).want L s)) (g := fun _ σ => y σ) (fine_want K g) (fun a r hr => hf r (need_sub hr) (need_ok hr).2.2) (fun a σ h => hb σ h)
theorem round_as {n : Nat} {ts : List Tk} (K : AllKd ts) (h : 3 * ts.length + 1 ≤ n + 2) : (parenP fnd L n ts).as (roundM L n (fine ts)) := by
 unfold parenP roundM
 exact want_then K good_par (y := fun σ => ((exM L n 1 0 σ).1, (exM L n 1 0 σ).2.want L [41])) (fun r hs hl => as_then (g := fun e σ => (e, σ.want L [41])) (ex_as (hs.kd K) (by omega)) (fun e r' hr =>
  want_then ((bin_sub hr).kd (hs.kd K)) good_rap (y := fun σ => (e, σ)) (fun r _ _ => rfl) (fun σ _ => rfl)) (fun e σ h => bad_want h _)) (fun σ h => by show ((exM L n 1 0 σ).2.want L [41]) = σ; rw [bad_ex2 h, bad_want h])
theorem open_as {d : Int} {ts : List Tk} (K : AllKd ts) : (openP L (d + 1) ts).as ((), openM L d (fine ts)) := by
 unfold openP openM
 by_cases h : isT [123] ts = true
 · have hh : (fine ts).has L [123] = true := by rw [fine_has K g_lbr]; exact h
   have hn : need L [123] ts = .ok () ts.tail := by unfold need; rw [if_pos h]
   rw [hn, hh]
   simp only [PR.then_ok]
   by_cases hd : 64 ≤ d
   · rw [if_pos (show 64 < d + 1 by omega), if_pos (show (true && decide (64 ≤ d)) = true by simpa using hd)]
     have hf := fine_fail L ts (q := 3) (by decide)
     rw [bad_want hf.bad]
     exact hf
   · rw [if_neg (show ¬ 64 < d + 1 by omega), if_neg (show ¬ (true && decide (64 ≤ d)) = true by simpa using hd)]
     unfold Sr.want
     rw [if_pos hh]; rfl
 · have hh : (fine ts).has L [123] = false := by rw [fine_has K g_lbr]; simpa using h
   have hn : need L [123] ts = .bad (hdP L ts) 2 := by unfold need; rw [if_neg h]
   rw [hn, hh]
   simp only [PR.then_bad, Bool.false_and]
   rw [if_neg (show ¬ false = true by decide)]
   unfold Sr.want
   rw [if_neg (show ¬ (fine ts).has L [123] = true by rw [hh]; decide)]
   exact fine_fail L ts (by decide)
theorem assign_stuck {σ σ1 : Sr} {n : Nat} {p : Int} (hn : (nameM L σ).2 = σ1) (hb : σ1.ok = false) : (assignM L n p σ).2 = σ1 := by
 unfold assignM
 simp only [hn, bad_want hb, bad_has hb, Bool.false_eq_true, if_false]
 rw [bad_ex2 hb, bad_want hb]
theorem change_as {n : Nat} {t : Tk} {r : List Tk} (K : AllKd (t :: r)) (h1 : t.kind = 1) (h : 3 * r.length + 1 ≤ n + 2) : (changeP fnd L n t r).as (assignM L n t.pos (fine (t :: r))) := by
 have Kr : AllKd r := K.tail
 unfold changeP assignM
 have hn : nameM L (fine (t :: r)) = (⟨t.text, 0, t.pos⟩, fine r) := by
  unfold nameM
  rw [if_pos ⟨fine_ok _, h1⟩]; rfl
 rw [hn]
 simp only
 refine want_then Kr g_eq (y := fun σ => if σ.has L [115, 119, 97, 112] = true then
  (St.mk 2 t.text (nameM L (σ.step.want L [40])).1.name [(exM L n 1 0 ((nameM L (σ.step.want L [40])).2.want L [44])).1] [] [] t.pos, ((exM L n 1 0 ((nameM L (σ.step.want L [40])).2.want L [44])).2.want L [41]).want L [59])
  else (St.mk 1 t.text ⟨#[]⟩ [(exM L n 1 0 σ).1] [] [] t.pos, (exM L n 1 0 σ).2.want L [59])) (fun q hs hl => ?_) (fun σ hb => by rw [if_neg (by rw [bad_has hb]; decide)]; show (exM L n 1 0 σ).2.want L [59] = σ; rw [bad_ex2 hb, bad_want hb])
 have Kq := hs.kd Kr
 rw [fine_has Kq g_swap]
 by_cases h2 : isT [115, 119, 97, 112] q = true
 · rw [if_pos h2, if_pos h2, fine_step]
   have ht := isT_tail h2
   refine want_then Kq.tail good_par (y := fun σ => (St.mk 2 t.text (nameM L σ).1.name [(exM L n 1 0 ((nameM L σ).2.want L [44])).1] [] [] t.pos, ((exM L n 1 0 ((nameM L σ).2.want L [44])).2.want L [41]).want L [59])) (fun q2 hs2 hl2 => ?_) (fun σ hb => by show ((exM L n 1 0 ((nameM L σ).2.want L [44])).2.want L [41]).want L [59] = σ; rw [bad_name hb]; simp only; rw [bad_want hb, bad_ex2 hb, bad_want hb, bad_want hb])
   have K2 := hs2.kd Kq.tail
   refine as_then (g := fun o σ => (St.mk 2 t.text o.name [(exM L n 1 0 (σ.want L [44])).1] [] [] t.pos, ((exM L n 1 0 (σ.want L [44])).2.want L [41]).want L [59])) (name_as q2) (fun o q3 hr3 => ?_) (fun o σ hb => by show ((exM L n 1 0 (σ.want L [44])).2.want L [41]).want L [59] = σ; rw [bad_want hb, bad_ex2 hb, bad_want hb, bad_want hb])
   have K3 := (name_sub hr3).kd K2
   have l3 := nameP_short hr3
   refine want_then K3 g_comma (y := fun σ => (St.mk 2 t.text o.name [(exM L n 1 0 σ).1] [] [] t.pos, ((exM L n 1 0 σ).2.want L [41]).want L [59])) (fun q4 hs4 hl4 => ?_) (fun σ hb => by show ((exM L n 1 0 σ).2.want L [41]).want L [59] = σ; rw [bad_ex2 hb, bad_want hb, bad_want hb])
   have K4 := hs4.kd K3
   refine as_then (g := fun e σ => (St.mk 2 t.text o.name [e] [] [] t.pos, (σ.want L [41]).want L [59])) (ex_as K4 (by omega)) (fun e q5 hr5 => ?_) (fun e σ hb => by show (σ.want L [41]).want L [59] = σ; rw [bad_want hb, bad_want hb])
   have K5 := (bin_sub hr5).kd K4
   refine want_then K5 good_rap (y := fun σ => (St.mk 2 t.text o.name [e] [] [] t.pos, σ.want L [59])) (fun q6 hs6 hl6 => ?_) (fun σ hb => bad_want hb _)
   exact want_then (hs6.kd K5) g_semi (y := fun σ => (St.mk 2 t.text o.name [e] [] [] t.pos, σ)) (fun r _ _ => rfl) (fun σ _ => rfl)
 · rw [if_neg h2, if_neg h2]
   refine as_then (g := fun e σ => (St.mk 1 t.text ⟨#[]⟩ [e] [] [] t.pos, σ.want L [59])) (ex_as Kq (by omega)) (fun e q5 hr5 => ?_) (fun e σ hb => bad_want hb _)
   exact want_then ((bin_sub hr5).kd Kq) g_semi (y := fun σ => (St.mk 1 t.text ⟨#[]⟩ [e] [] [] t.pos, σ)) (fun r _ _ => rfl) (fun σ _ => rfl)
theorem openP_len {d : Int} {ts : List Tk} {u : Unit} {r : List Tk} (h : openP L d ts = .ok u r) : r.length + 1 = ts.length := by
 unfold openP at h
 obtain ⟨u, b, h1, h2⟩ := PR.then_eq_ok h
 split at h2
 · cases h2
 · cases h2; exact (need_ok h1).2.2
theorem sub_len {r ts : List Tk} (h : Sub r ts) : r.length ≤ ts.length := by
 obtain ⟨a, rfl⟩ := h
 simp
theorem open_then {α : Type} {d : Int} {ts : List Tk} (K : AllKd ts) {f : Unit → List Tk → PR α} {y : Sr → α × Sr} (hf : ∀ r, Sub r ts → r.length + 1 = ts.length → (f () r).as (y (fine r))) (hb : ∀ σ, σ.ok = false → (y σ).2 = σ) : ((openP L (d + 1) ts).then f).as (y (openM L d (fine ts))) :=
 as_then (y := ((), openM L d (fine ts))) (g := fun _ σ => y σ) (open_as K) (fun a r hr => hf r (open_sub hr) (openP_len hr)) (fun a σ h => hb σ h)
theorem stmt_as : ∀ n : Nat,
 (∀ d ts, AllKd ts → 3 * ts.length + 1 ≤ n → (stmtP fnd L n d ts).as (stM L n d (fine ts))) ∧
 (∀ d acc ts, AllKd ts → 3 * ts.length + 2 ≤ n → (restP fnd L n d acc ts).as (stsM L n d acc (fine ts))) := by
 intro n
 induction n with
 | zero => exact ⟨fun d ts K h => by omega, fun d acc ts K h => by omega⟩
 | succ n ih =>
   obtain ⟨i1, i2⟩ := ih
   refine ⟨fun d ts K h => ?_, fun d acc ts K h => ?_⟩
   · cases ts with
     | nil =>
       simp only [stmtP, stM]
       have e : ∀ s, (fine ([] : List Tk)).has L s = false := fun s => rfl
       rw [e, e, e, e, e, if_neg (by decide), if_neg (by decide), if_neg (by decide), if_neg (by decide), if_neg (by decide)]
       have hf := fine_fail L [] (q := 2) (by decide)
       have hn : (nameM L (fine [])).2 = (fine []).fail L 2 := rfl
       show Sr.At _ _ _
       rw [assign_stuck hn hf.bad]
       exact hf
     | cons t r =>
       simp only [List.length_cons] at h
       have Kr : AllKd r := K.tail
       have hp : (hereM L (fine (t :: r)).ts).pos = t.pos := rfl
       simp only [stmtP, stM]
       rw [fine_has K g_if, fine_has K g_while, fine_has K g_lock, fine_has K g_print, fine_has K g_skip, isT_one, isT_one, isT_one, isT_one, isT_one, hp, fine_step, List.tail_cons]
       have no1 : ∀ s, Good s → t.tx = s → ¬ t.kind = 1 := by
        intro s g hx k1
        have k := K t (.head _)
        have := kd_good (hx ▸ k) g
        rw [k1] at this
        revert this; decide
       by_cases k1 : t.kind = 1
       · rw [if_pos k1, if_neg (by intro e; exact no1 _ g_if (by simpa using e) k1), if_neg (by intro e; exact no1 _ g_while (by simpa using e) k1), if_neg (by intro e; exact no1 _ g_lock (by simpa using e) k1), if_neg (by intro e; exact no1 _ g_print (by simpa using e) k1), if_neg (by intro e; exact no1 _ g_skip (by simpa using e) k1)]
         exact change_as K k1 (by omega)
       rw [if_neg k1]
       by_cases q1 : t.tx = [105, 102]
       · rw [if_pos q1, if_pos (by rw [q1]; rfl)]
         refine as_then (g := fun e σ => if (stsM L n (d + 1) [] (openM L d σ)).2.has L [101, 108, 115, 101] = true then (St.mk 3 ⟨#[]⟩ ⟨#[]⟩ [e] (stsM L n (d + 1) [] (openM L d σ)).1 (stsM L n (d + 1) [] (openM L d (stsM L n (d + 1) [] (openM L d σ)).2.step)).1 t.pos, (stsM L n (d + 1) [] (openM L d (stsM L n (d + 1) [] (openM L d σ)).2.step)).2) else (St.mk 3 ⟨#[]⟩ ⟨#[]⟩ [e] (stsM L n (d + 1) [] (openM L d σ)).1 [] t.pos, (stsM L n (d + 1) [] (openM L d σ)).2))
          (round_as Kr (by omega)) (fun e r2 hr2 => ?_) (fun e σ hb => by rw [bad_open hb, bad_sts hb, if_neg (by rw [bad_has hb]; decide)])
         have K2 := (paren_sub hr2).kd Kr
         have l2 := paren_short hr2
         refine open_then K2 (y := fun σ => if (stsM L n (d + 1) [] σ).2.has L [101, 108, 115, 101] = true then (St.mk 3 ⟨#[]⟩ ⟨#[]⟩ [e] (stsM L n (d + 1) [] σ).1 (stsM L n (d + 1) [] (openM L d (stsM L n (d + 1) [] σ).2.step)).1 t.pos, (stsM L n (d + 1) [] (openM L d (stsM L n (d + 1) [] σ).2.step)).2) else (St.mk 3 ⟨#[]⟩ ⟨#[]⟩ [e] (stsM L n (d + 1) [] σ).1 [] t.pos, (stsM L n (d + 1) [] σ).2)) (fun r3 hs3 hl3 => ?_) (fun σ hb => by rw [bad_sts hb, if_neg (by rw [bad_has hb]; decide)])
         have K3 := hs3.kd K2
         refine as_then (g := fun b σ => if σ.has L [101, 108, 115, 101] = true then (St.mk 3 ⟨#[]⟩ ⟨#[]⟩ [e] b (stsM L n (d + 1) [] (openM L d σ.step)).1 t.pos, (stsM L n (d + 1) [] (openM L d σ.step)).2) else (St.mk 3 ⟨#[]⟩ ⟨#[]⟩ [e] b [] t.pos, σ)) (i2 (d + 1) [] r3 K3 (by omega)) (fun b r4 hr4 => ?_) (fun b σ hb => by rw [if_neg (by rw [bad_has hb]; decide)])
         have K4 := ((stmt_sub n).2 _ _ _ _ _ hr4).kd K3
         have l4 := sub_len ((stmt_sub n).2 _ _ _ _ _ hr4)
         rw [fine_has K4 g_else]
         by_cases he : isT [101, 108, 115, 101] r4 = true
         · rw [if_pos he, if_pos he, fine_step]
           have ht := isT_tail he
           refine open_then K4.tail (y := fun σ => (St.mk 3 ⟨#[]⟩ ⟨#[]⟩ [e] b (stsM L n (d + 1) [] σ).1 t.pos, (stsM L n (d + 1) [] σ).2)) (fun r5 hs5 hl5 => ?_) (fun σ hb => by show (stsM L n (d + 1) [] σ).2 = σ; rw [bad_sts hb])
           exact as_then (g := fun l σ => (St.mk 3 ⟨#[]⟩ ⟨#[]⟩ [e] b l t.pos, σ)) (i2 (d + 1) [] r5 (hs5.kd K4.tail) (by omega)) (fun l r6 _ => rfl) (fun l σ _ => rfl)
         · rw [if_neg he, if_neg he]; rfl
       rw [if_neg q1, if_neg (show ¬ (t.tx == [105, 102]) = true by simpa using q1)]
       by_cases q2 : t.tx = [119, 104, 105, 108, 101]
       · rw [if_pos q2, if_pos (by rw [q2]; rfl)]
         refine as_then (g := fun e σ => (St.mk 4 ⟨#[]⟩ ⟨#[]⟩ [e] (stsM L n (d + 1) [] (openM L d σ)).1 [] t.pos, (stsM L n (d + 1) [] (openM L d σ)).2))
          (round_as Kr (by omega)) (fun e r2 hr2 => ?_) (fun e σ hb => by show (stsM L n (d + 1) [] (openM L d σ)).2 = σ; rw [bad_open hb, bad_sts hb])
         have K2 := (paren_sub hr2).kd Kr
         have l2 := paren_short hr2
         refine open_then K2 (y := fun σ => (St.mk 4 ⟨#[]⟩ ⟨#[]⟩ [e] (stsM L n (d + 1) [] σ).1 [] t.pos, (stsM L n (d + 1) [] σ).2)) (fun r3 hs3 hl3 => ?_) (fun σ hb => by show (stsM L n (d + 1) [] σ).2 = σ; rw [bad_sts hb])
         exact as_then (g := fun l σ => (St.mk 4 ⟨#[]⟩ ⟨#[]⟩ [e] l [] t.pos, σ)) (i2 (d + 1) [] r3 (hs3.kd K2) (by omega)) (fun l r6 _ => rfl) (fun l σ _ => rfl)
       rw [if_neg q2, if_neg (show ¬ (t.tx == [119, 104, 105, 108, 101]) = true by simpa using q2)]
       by_cases q3 : t.tx = [108, 111, 99, 107]
       · rw [if_pos q3, if_pos (by rw [q3]; rfl)]
         refine as_then (g := fun o σ => (St.mk 5 o.name ⟨#[]⟩ [] (stsM L n (d + 1) [] (openM L d σ)).1 [] t.pos, (stsM L n (d + 1) [] (openM L d σ)).2))
          (name_as r) (fun o r2 hr2 => ?_) (fun e σ hb => by show (stsM L n (d + 1) [] (openM L d σ)).2 = σ; rw [bad_open hb, bad_sts hb])
         have K2 := (name_sub hr2).kd Kr
         have l2 := nameP_short hr2
         refine open_then K2 (y := fun σ => (St.mk 5 o.name ⟨#[]⟩ [] (stsM L n (d + 1) [] σ).1 [] t.pos, (stsM L n (d + 1) [] σ).2)) (fun r3 hs3 hl3 => ?_) (fun σ hb => by show (stsM L n (d + 1) [] σ).2 = σ; rw [bad_sts hb])
         exact as_then (g := fun l σ => (St.mk 5 o.name ⟨#[]⟩ [] l [] t.pos, σ)) (i2 (d + 1) [] r3 (hs3.kd K2) (by omega)) (fun l r6 _ => rfl) (fun l σ _ => rfl)
       rw [if_neg q3, if_neg (show ¬ (t.tx == [108, 111, 99, 107]) = true by simpa using q3)]
       by_cases q4 : t.tx = [112, 114, 105, 110, 116]
       · rw [if_pos q4, if_pos (by rw [q4]; rfl)]
         refine as_then (g := fun e σ => (St.mk 6 ⟨#[]⟩ ⟨#[]⟩ [e] [] [] t.pos, σ.want L [59])) (ex_as Kr (by omega)) (fun e r2 hr2 => ?_) (fun e σ hb => bad_want hb _)
         exact want_then ((bin_sub hr2).kd Kr) g_semi (y := fun σ => (St.mk 6 ⟨#[]⟩ ⟨#[]⟩ [e] [] [] t.pos, σ)) (fun r _ _ => rfl) (fun σ _ => rfl)
       rw [if_neg q4, if_neg (show ¬ (t.tx == [112, 114, 105, 110, 116]) = true by simpa using q4)]
       by_cases q5 : t.tx = [115, 107, 105, 112]
       · rw [if_pos q5, if_pos (by rw [q5]; rfl)]
         exact want_then Kr g_semi (y := fun σ => (St.mk 7 ⟨#[]⟩ ⟨#[]⟩ [] [] [] t.pos, σ)) (fun r _ _ => rfl) (fun σ _ => rfl)
       rw [if_neg q5, if_neg (show ¬ (t.tx == [115, 107, 105, 112]) = true by simpa using q5)]
       have hn : (nameM L (fine (t :: r))).2 = (fine (t :: r)).fail L 2 := by
        unfold nameM
        rw [if_neg (fun e => k1 e.2)]
       have hf := fine_fail L (t :: r) (q := 2) (by decide)
       show Sr.At _ _ _
       rw [assign_stuck hn hf.bad]
       exact hf
   · simp only [restP, stsM]
     rw [if_pos (fine_ok ts), fine_has K g_rbr]
     by_cases h1 : isT [125] ts = true
     · rw [if_pos h1, if_pos h1]; rfl
     · rw [if_neg h1, if_neg h1]
       refine as_then (g := fun s σ => stsM L n d (acc ++ [s]) σ) (i1 d ts K (by omega)) (fun s r hr => ?_) (fun s σ hb => by rw [bad_sts hb])
       exact i2 d _ r (((stmt_sub n).1 _ _ _ _ hr).kd K) (by have := stmtP_short hr; omega)
end
open Go.RowKit
set_option linter.unusedVariables false
section
variable {L : Int}
theorem locals_as : ∀ (n : Nat) (acc : List Dc) (ts : List Tk), AllKd ts → ts.length < n → (localsP L n acc ts).as (localsM L n acc (fine ts))
 | 0, acc, ts, K, h => by omega
 | n + 1, acc, ts, K, h => by
   simp only [localsP, localsM]
   rw [fine_has K g_local]
   by_cases h1 : isT [108, 111, 99, 97, 108] ts = true
   · rw [if_pos h1, if_pos h1, fine_step]
     have ht := isT_tail h1
     refine as_then (g := fun l σ => localsM L n (acc ++ l) σ) (names_as K.tail (by omega)) (fun l r hr => ?_) (fun l σ hb => by rw [bad_locals hb])
     have hs := list_sub (fun _ _ _ => name_sub) _ _ _ _ _ hr
     exact locals_as n _ r (hs.kd K.tail) (by have := sub_len hs; omega)
   · rw [if_neg h1, if_neg h1]; rfl
theorem thread_as {n : Nat} {ts : List Tk} (K : AllKd ts) (h : 3 * ts.length ≤ n + 1) : (threadP fnd L n ts).as (threadM L n (fine ts)) := by
 unfold threadP threadM
 refine as_then (g := fun d σ => (Th.mk d.name (localsM L n [] (σ.want L [123])).1 (stsM L n 1 [] (localsM L n [] (σ.want L [123])).2).1 d.pos, (stsM L n 1 [] (localsM L n [] (σ.want L [123])).2).2)) (name_as ts) (fun d r hr => ?_) (fun d σ hb => by show (stsM L n 1 [] (localsM L n [] (σ.want L [123])).2).2 = σ; rw [bad_want hb, bad_locals hb, bad_sts hb])
 have Kr := (name_sub hr).kd K
 have lr := nameP_short hr
 have e : openP L 1 r = need L [123] r := by
  unfold openP
  cases need L [123] r with
  | ok u q => simp only [PR.then_ok]; rw [if_neg (by decide)]
  | bad p q => rfl
 rw [e]
 refine want_then Kr g_lbr (y := fun σ => (Th.mk d.name (localsM L n [] σ).1 (stsM L n 1 [] (localsM L n [] σ).2).1 d.pos, (stsM L n 1 [] (localsM L n [] σ).2).2)) (fun r2 hs2 l2 => ?_) (fun σ hb => by show (stsM L n 1 [] (localsM L n [] σ).2).2 = σ; rw [bad_locals hb, bad_sts hb])
 have K2 := hs2.kd Kr
 refine as_then (g := fun l σ => (Th.mk d.name l (stsM L n 1 [] σ).1 d.pos, (stsM L n 1 [] σ).2)) (locals_as n [] r2 K2 (by omega)) (fun l r3 hr3 => ?_) (fun l σ hb => by show (stsM L n 1 [] σ).2 = σ; rw [bad_sts hb])
 have hs3 := locals_sub _ _ _ _ _ hr3
 exact as_then (g := fun b σ => (Th.mk d.name l b d.pos, σ)) ((stmt_as n).2 1 [] r3 (hs3.kd K2) (by have := sub_len hs3; omega)) (fun b r4 _ => rfl) (fun b σ _ => rfl)
theorem threads_as : ∀ (n : Nat) (acc : List Th) (ts : List Tk), AllKd ts → 3 * ts.length + 1 ≤ n → (endP (threadsP fnd L n acc ts)).as (threadsM L n acc (fine ts))
 | 0, acc, ts, K, h => by omega
 | n + 1, acc, ts, K, h => by
   simp only [threadsP, threadsM]
   cases ts with
   | nil =>
     rw [if_neg (show ¬ isT [116, 104, 114, 101, 97, 100] [] = true by decide), if_neg (fun e => e.2 rfl)]
     rfl
   | cons t r =>
     simp only [List.length_cons] at h
     rw [if_pos (show (fine (t :: r)).ok = true ∧ (fine (t :: r)).ts ≠ [] from ⟨fine_ok _, by show t :: r ≠ []; simp⟩)]
     by_cases h1 : isT [116, 104, 114, 101, 97, 100] (t :: r) = true
     · rw [if_pos h1]
       have hw : (fine (t :: r)).want L [116, 104, 114, 101, 97, 100] = fine r := by
        unfold Sr.want
        rw [fine_has K g_thread, if_pos h1]; rfl
       rw [hw]
       have e : endP ((threadP fnd L n (t :: r).tail).then fun t r => threadsP fnd L n (acc ++ [t]) r) = (threadP fnd L n r).then fun t r => endP (threadsP fnd L n (acc ++ [t]) r) := by
        show endP ((threadP fnd L n r).then _) = _
        cases threadP fnd L n r <;> rfl
       rw [e]
       refine as_then (g := fun t σ => threadsM L n (acc ++ [t]) σ) (thread_as K.tail (by show 3 * r.length ≤ _; omega)) (fun t r2 hr => ?_) (fun t σ hb => by rw [bad_threads hb])
       have hs : Sub r2 r := thread_sub hr
       exact threads_as n _ r2 (hs.kd K.tail) (by have := sub_len hs; omega)
     · rw [if_neg h1]
       have hw : (fine (t :: r)).want L [116, 104, 114, 101, 97, 100] = (fine (t :: r)).fail L 2 := by
        unfold Sr.want
        rw [fine_has K g_thread, if_neg h1]
       rw [hw]
       have hf := fine_fail L (t :: r) (q := 2) (by decide)
       show Sr.At _ _ _
       rw [bad_threads (by rw [bad_thread hf.bad]; exact hf.bad)]
       simp only
       rw [bad_thread hf.bad]
       exact hf
theorem decls_as (m : Nat) : ∀ (n : Nat) (p : Pg) (ts : List Tk), AllKd ts → 3 * ts.length + 1 ≤ m → ts.length < n → p.threads = [] →
 (endP ((declsP L n p ts).then fun p r => (threadsP fnd L m [] r).then fun l r => .ok { p with threads := l } r)).as (declsM L m n p (fine ts))
 | 0, p, ts, K, hm, h, hp => by omega
 | n + 1, p, ts, K, hm, h, hp => by
   simp only [declsP, declsM]
   rw [if_pos (fine_ok ts), fine_has K g_shared, fine_has K g_lock]
   by_cases h1 : isT [115, 104, 97, 114, 101, 100] ts = true
   · rw [if_pos h1, if_pos h1, fine_step]
     have ht := isT_tail h1
     have e : ∀ x : PR (List Dc), endP ((x.then fun l r => declsP L n { p with shared := p.shared ++ l } r).then fun p r => (threadsP fnd L m [] r).then fun l r => .ok { p with threads := l } r) = x.then fun l r => endP ((declsP L n { p with shared := p.shared ++ l } r).then fun p r => (threadsP fnd L m [] r).then fun l r => .ok { p with threads := l } r) := by
      intro x; cases x <;> rfl
     rw [e]
     refine as_then (g := fun l σ => declsM L m n { p with shared := p.shared ++ l } σ) (firsts_as K.tail (by omega)) (fun l r hr => ?_) (fun l σ hb => by rw [bad_decls hb])
     have hs := list_sub (fun _ _ _ => first_sub) _ _ _ _ _ hr
     have := sub_len hs
     exact decls_as m n _ r (hs.kd K.tail) (by omega) (by omega) hp
   · rw [if_neg h1, if_neg h1]
     by_cases h2 : isT [108, 111, 99, 107] ts = true
     · rw [if_pos h2, if_pos h2, fine_step]
       have ht := isT_tail h2
       have e : ∀ x : PR (List Dc), endP ((x.then fun l r => declsP L n { p with locks := p.locks ++ l } r).then fun p r => (threadsP fnd L m [] r).then fun l r => .ok { p with threads := l } r) = x.then fun l r => endP ((declsP L n { p with locks := p.locks ++ l } r).then fun p r => (threadsP fnd L m [] r).then fun l r => .ok { p with threads := l } r) := by
        intro x; cases x <;> rfl
       rw [e]
       refine as_then (g := fun l σ => declsM L m n { p with locks := p.locks ++ l } σ) (names_as K.tail (by omega)) (fun l r hr => ?_) (fun l σ hb => by rw [bad_decls hb])
       have hs := list_sub (fun _ _ _ => name_sub) _ _ _ _ _ hr
       have := sub_len hs
       exact decls_as m n _ r (hs.kd K.tail) (by omega) (by omega) hp
     · rw [if_neg h2, if_neg h2]
       simp only [PR.then_ok]
       have e : endP ((threadsP fnd L m [] ts).then fun l r => (.ok { p with threads := l } r : PR Pg)) = (endP (threadsP fnd L m [] ts)).then fun l r => .ok { p with threads := l } r := by
        cases threadsP fnd L m [] ts with
        | bad => rfl
        | ok l r => cases r <;> rfl
       rw [e, hp]
       exact as_then (g := fun l σ => (({ p with threads := l } : Pg), σ)) (threads_as m [] ts K hm) (fun l r _ => rfl) (fun l σ _ => rfl)
theorem prog_as {n : Nat} {ts : List Tk} (K : AllKd ts) (h : 3 * ts.length + 1 ≤ n) : (endP (progP fnd L n ts)).as (declsM L n n ⟨[], [], []⟩ (fine ts)) := by
 unfold progP
 exact decls_as n n ⟨[], [], []⟩ ts K h (by omega) rfl
end
end Go.Proofs.YtfogkobgjojpiaaGreatDoor

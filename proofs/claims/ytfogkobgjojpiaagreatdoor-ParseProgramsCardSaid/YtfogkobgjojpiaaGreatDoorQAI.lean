/- The proof, part 9: texts that belong together, in one. -/
import Derived.Lib.Hide
import Derived.PlainAid
set_option maxRecDepth 100000
set_option maxHeartbeats 20000000
namespace Go.Proofs.YtfogkobgjojpiaaGreatDoor
set_option linter.unusedVariables false
structure Tk where
 kind : Int
 text : ByteArray
 wd : Int
 pos : Int
inductive Ex where
 | mk (kind op wd : Int) (name : ByteArray) (kids : List Ex) (pos : Int)
structure Dc where
 name : ByteArray
 wd : Int
 pos : Int
inductive St where
 | mk (kind : Int) (name other : ByteArray) (e : List Ex) (body els : List St) (pos : Int)
structure Th where
 name : ByteArray
 locals : List Dc
 body : List St
 pos : Int
structure Pg where
 shared : List Dc
 locks : List Dc
 threads : List Th
theorem Ex.ind {P : Ex → Prop} (h : ∀ k o w n ks a, (∀ x ∈ ks, P x) → P (.mk k o w n ks a)) : ∀ e, P e
 | .mk k o w n ks a => h k o w n ks a fun x hx => Ex.ind h x
termination_by e => SizeOf.sizeOf e
decreasing_by
 have := List.sizeOf_lt_of_mem hx
 simp only [Ex.mk.sizeOf_spec]
 omega
theorem Exs.ind {P : List Ex → Prop} (h0 : P []) (h1 : ∀ k o w n ks a r, P ks → P r → P (.mk k o w n ks a :: r)) : ∀ l, P l
 | [] => h0
 | .mk k o w n ks a :: r => h1 k o w n ks a r (Exs.ind h0 h1 ks) (Exs.ind h0 h1 r)
termination_by l => SizeOf.sizeOf l
theorem Sts.ind {P : List St → Prop} (h0 : P []) (h1 : ∀ k n o e b l a r, P b → P l → P r → P (.mk k n o e b l a :: r)) : ∀ l, P l
 | [] => h0
 | .mk k n o e b l a :: r => h1 k n o e b l a r (Sts.ind h0 h1 b) (Sts.ind h0 h1 l) (Sts.ind h0 h1 r)
termination_by l => SizeOf.sizeOf l
def Ex.kind : Ex → Int | .mk k _ _ _ _ _ => k
def Ex.op : Ex → Int | .mk _ o _ _ _ _ => o
def Ex.wd : Ex → Int | .mk _ _ w _ _ _ => w
def Ex.name : Ex → ByteArray | .mk _ _ _ n _ _ => n
def Ex.kids : Ex → List Ex | .mk _ _ _ _ k _ => k
def Ex.pos : Ex → Int | .mk _ _ _ _ _ p => p
def St.kind : St → Int | .mk k _ _ _ _ _ _ => k
def St.name : St → ByteArray | .mk _ n _ _ _ _ _ => n
def St.other : St → ByteArray | .mk _ _ o _ _ _ _ => o
def St.e : St → List Ex | .mk _ _ _ e _ _ _ => e
def St.body : St → List St | .mk _ _ _ _ b _ _ => b
def St.els : St → List St | .mk _ _ _ _ _ l _ => l
def St.pos : St → Int | .mk _ _ _ _ _ _ p => p
inductive PR (α : Type) where
 | ok (a : α) (r : List Tk)
 | bad (pos rule : Int)
def PR.then {α β : Type} (x : PR α) (f : α → List Tk → PR β) : PR β :=
 match x with
 | .ok a r => f a r
 | .bad p r => .bad p r
@[simp] theorem PR.then_ok {α β : Type} (a : α) (r : List Tk) (f : α → List Tk → PR β) : (PR.ok a r).then f = f a r := rfl
@[simp] theorem PR.then_bad {α β : Type} (p r : Int) (f : α → List Tk → PR β) : (PR.bad p r : PR α).then f = .bad p r := rfl
abbrev Bs := List UInt8
def Tk.tx (t : Tk) : Bs := t.text.data.toList
def hdP (L : Int) : List Tk → Int
 | [] => L
 | t :: _ => t.pos
def isT (s : Bs) : List Tk → Bool
 | [] => false
 | t :: _ => t.tx == s
def need (L : Int) (s : Bs) (ts : List Tk) : PR Unit := if isT s ts then .ok () ts.tail else .bad (hdP L ts) 2
def nameP (L : Int) : List Tk → PR Dc
 | [] => .bad L 2
 | t :: r => if t.kind = 1 then .ok ⟨t.text, 0, t.pos⟩ r else .bad t.pos 2
def numP (L : Int) : List Tk → PR Int
 | [] => .bad L 2
 | t :: r => if t.kind = 3 then .ok t.wd r else .bad t.pos 2
def sLevel : List Int := [0, 7, 7, 8, 8, 8, 3, 1, 2, 6, 6, 4, 4, 5, 5, 5, 5, 9, 9]
def levelI (o : Int) : Int := sLevel.getD o.toNat 0
def unX (op : Int) (p : Int) (e : Ex) : Ex := .mk 3 op 0 ⟨#[]⟩ [e] p
def biX (op : Int) (p : Int) (a b : Ex) : Ex := .mk 4 op 0 ⟨#[]⟩ [a, b] p
section
variable (fnd : Bs → Int × Bool) (L : Int)
mutual
def opnd : Nat → Int → List Tk → PR Ex
 | 0, _, _ => .bad 0 0
 | _ + 1, _, [] => .bad L 2
 | n + 1, d, t :: r =>
   if t.kind = 3 then .ok (.mk 1 0 t.wd ⟨#[]⟩ [] t.pos) r
   else if t.kind = 1 then .ok (.mk 2 0 0 t.text [] t.pos) r
   else if t.tx = [45] then if d = 64 then .bad t.pos 3 else (opnd n (d + 1) r).then fun e r => .ok (unX 17 t.pos e) r
   else if t.tx = [33] then if d = 64 then .bad t.pos 3 else (opnd n (d + 1) r).then fun e r => .ok (unX 18 t.pos e) r
   else if t.tx = [40] then if d = 64 then .bad t.pos 3 else (binE n 1 (d + 1) r).then fun e r => (need L [41] r).then fun _ r => .ok e r
   else .bad t.pos 2
def binE : Nat → Int → Int → List Tk → PR Ex
 | 0, _, _, _ => .bad 0 0
 | n + 1, v, d, ts => (opnd n d ts).then fun e r => binL n v d e r
def binL : Nat → Int → Int → Ex → List Tk → PR Ex
 | 0, _, _, _, _ => .bad 0 0
 | _ + 1, _, _, e, [] => .ok e []
 | n + 1, v, d, e, t :: r =>
   if (fnd t.tx).2 = true ∧ v ≤ levelI (fnd t.tx).1 then (binE n (levelI (fnd t.tx).1 + 1) d r).then fun f r => binL n v d (biX (fnd t.tx).1 t.pos e f) r
   else .ok e (t :: r)
end
def listP (one : List Tk → PR Dc) : Nat → List Dc → List Tk → PR (List Dc)
 | 0, _, _ => .bad 0 0
 | n + 1, acc, ts => (one ts).then fun d r => if isT [44] r then listP one n (acc ++ [d]) r.tail else (need L [59] r).then fun _ r => .ok (acc ++ [d]) r
def firstP (ts : List Tk) : PR Dc := (nameP L ts).then fun d r =>
 if isT [61] r then
  if isT [45] r.tail then (numP L r.tail.tail).then fun v r => .ok ⟨d.name, -v, d.pos⟩ r
  else (numP L r.tail).then fun v r => .ok ⟨d.name, v, d.pos⟩ r
 else .ok d r
def parenP (n : Nat) (ts : List Tk) : PR Ex := (need L [40] ts).then fun _ r => (binE fnd L n 1 0 r).then fun e r => (need L [41] r).then fun _ r => .ok e r
def changeP (n : Nat) (t : Tk) (r : List Tk) : PR St :=
 (need L [61] r).then fun _ r =>
  if isT [115, 119, 97, 112] r then
   (need L [40] r.tail).then fun _ r => (nameP L r).then fun o r => (need L [44] r).then fun _ r => (binE fnd L n 1 0 r).then fun e r => (need L [41] r).then fun _ r => (need L [59] r).then fun _ r => .ok (.mk 2 t.text o.name [e] [] [] t.pos) r
  else (binE fnd L n 1 0 r).then fun e r => (need L [59] r).then fun _ r => .ok (.mk 1 t.text ⟨#[]⟩ [e] [] [] t.pos) r
def openP (d : Int) (ts : List Tk) : PR Unit := (need L [123] ts).then fun _ r => if 64 < d then .bad (hdP L ts) 3 else .ok () r
mutual
def stmtP : Nat → Int → List Tk → PR St
 | 0, _, _ => .bad 0 0
 | _ + 1, _, [] => .bad L 2
 | n + 1, d, t :: r =>
   if t.kind = 1 then changeP fnd L n t r
   else if t.tx = [105, 102] then (parenP fnd L n r).then fun e r => (openP L (d + 1) r).then fun _ r => (restP n (d + 1) [] r).then fun b r =>
    if isT [101, 108, 115, 101] r then (openP L (d + 1) r.tail).then fun _ r => (restP n (d + 1) [] r).then fun l r => .ok (.mk 3 ⟨#[]⟩ ⟨#[]⟩ [e] b l t.pos) r
    else .ok (.mk 3 ⟨#[]⟩ ⟨#[]⟩ [e] b [] t.pos) r
   else if t.tx = [119, 104, 105, 108, 101] then (parenP fnd L n r).then fun e r => (openP L (d + 1) r).then fun _ r => (restP n (d + 1) [] r).then fun b r => .ok (.mk 4 ⟨#[]⟩ ⟨#[]⟩ [e] b [] t.pos) r
   else if t.tx = [108, 111, 99, 107] then (nameP L r).then fun o r => (openP L (d + 1) r).then fun _ r => (restP n (d + 1) [] r).then fun b r => .ok (.mk 5 o.name ⟨#[]⟩ [] b [] t.pos) r
   else if t.tx = [112, 114, 105, 110, 116] then (binE fnd L n 1 0 r).then fun e r => (need L [59] r).then fun _ r => .ok (.mk 6 ⟨#[]⟩ ⟨#[]⟩ [e] [] [] t.pos) r
   else if t.tx = [115, 107, 105, 112] then (need L [59] r).then fun _ r => .ok (.mk 7 ⟨#[]⟩ ⟨#[]⟩ [] [] [] t.pos) r
   else .bad t.pos 2
def restP : Nat → Int → List St → List Tk → PR (List St)
 | 0, _, _, _ => .bad 0 0
 | n + 1, d, acc, ts => if isT [125] ts then .ok acc ts.tail else (stmtP n d ts).then fun s r => restP n d (acc ++ [s]) r
end
def localsP : Nat → List Dc → List Tk → PR (List Dc)
 | 0, _, _ => .bad 0 0
 | n + 1, acc, ts => if isT [108, 111, 99, 97, 108] ts then (listP L (nameP L) n [] ts.tail).then fun l r => localsP n (acc ++ l) r else .ok acc ts
def threadP (n : Nat) (ts : List Tk) : PR Th :=
 (nameP L ts).then fun d r => (openP L 1 r).then fun _ r => (localsP L n [] r).then fun l r => (restP fnd L n 1 [] r).then fun b r => .ok ⟨d.name, l, b, d.pos⟩ r
def threadsP : Nat → List Th → List Tk → PR (List Th)
 | 0, _, _ => .bad 0 0
 | n + 1, acc, ts => if isT [116, 104, 114, 101, 97, 100] ts then (threadP fnd L n ts.tail).then fun t r => threadsP n (acc ++ [t]) r else .ok acc ts
def declsP : Nat → Pg → List Tk → PR Pg
 | 0, _, _ => .bad 0 0
 | n + 1, p, ts =>
   if isT [115, 104, 97, 114, 101, 100] ts then (listP L (firstP L) n [] ts.tail).then fun l r => declsP n { p with shared := p.shared ++ l } r
   else if isT [108, 111, 99, 107] ts then (listP L (nameP L) n [] ts.tail).then fun l r => declsP n { p with locks := p.locks ++ l } r
   else .ok p ts
def endP {α : Type} (x : PR α) : PR α := x.then fun a r => match r with | [] => .ok a [] | t :: _ => .bad t.pos 2
def progP (n : Nat) (ts : List Tk) : PR Pg := (declsP L n ⟨[], [], []⟩ ts).then fun p r => (threadsP fnd L n [] r).then fun l r => .ok { p with threads := l } r
def fuel (ts : List Tk) : Nat := 3 * ts.length + 5
end
set_option linter.unusedVariables false
theorem PR.then_eq_ok {α β : Type} {x : PR α} {f : α → List Tk → PR β} {b : β} {r : List Tk} (h : x.then f = .ok b r) : ∃ a q, x = .ok a q ∧ f a q = .ok b r := by
 cases x with
 | ok a q => exact ⟨a, q, rfl, h⟩
 | bad p q => cases h
theorem need_ok {L : Int} {s : Bs} {ts : List Tk} {u : Unit} {r : List Tk} (h : need L s ts = .ok u r) : isT s ts = true ∧ r = ts.tail ∧ r.length + 1 = ts.length := by
 unfold need at h
 split at h
 · rename_i hi
   cases h
   cases ts with
   | nil => cases hi
   | cons t r => exact ⟨hi, rfl, rfl⟩
 · cases h
theorem isT_tail {s : Bs} {ts : List Tk} (h : isT s ts = true) : ts.tail.length + 1 = ts.length := by
 cases ts with
 | nil => cases h
 | cons t r => rfl
theorem name_ok {L : Int} {ts : List Tk} {d : Dc} {r : List Tk} (h : nameP L ts = .ok d r) : r.length + 1 = ts.length := by
 cases ts with
 | nil => cases h
 | cons t q =>
   simp only [nameP] at h
   split at h
   · cases h; rfl
   · cases h
theorem num_ok {L : Int} {ts : List Tk} {d : Int} {r : List Tk} (h : numP L ts = .ok d r) : r.length + 1 = ts.length := by
 cases ts with
 | nil => cases h
 | cons t q =>
   simp only [numP] at h
   split at h
   · cases h; rfl
   · cases h
section
variable {fnd : Bs → Int × Bool} {L : Int}
theorem expr_short : ∀ n : Nat,
 (∀ d ts e r, opnd fnd L n d ts = .ok e r → r.length < ts.length) ∧
 (∀ v d ts e r, binE fnd L n v d ts = .ok e r → r.length < ts.length) ∧
 (∀ v d l ts e r, binL fnd L n v d l ts = .ok e r → r.length ≤ ts.length) := by
 intro n
 induction n with
 | zero => exact ⟨fun d ts e r h => by simp [opnd] at h, fun v d ts e r h => by simp [binE] at h, fun v d l ts e r h => by simp [binL] at h⟩
 | succ n ih =>
   obtain ⟨i1, i2, i3⟩ := ih
   refine ⟨fun d ts e r h => ?_, fun v d ts e r h => ?_, fun v d l ts e r h => ?_⟩
   · cases ts with
     | nil => simp [opnd] at h
     | cons t q =>
       simp only [opnd] at h
       split at h
       · cases h; simp
       split at h
       · cases h; simp
       split at h
       · split at h
         · cases h
         · obtain ⟨a, b, h1, h2⟩ := PR.then_eq_ok h
           cases h2
           have := i1 _ _ _ _ h1
           simp; omega
       split at h
       · split at h
         · cases h
         · obtain ⟨a, b, h1, h2⟩ := PR.then_eq_ok h
           cases h2
           have := i1 _ _ _ _ h1
           simp; omega
       split at h
       · split at h
         · cases h
         · obtain ⟨a, b, h1, h2⟩ := PR.then_eq_ok h
           obtain ⟨u, c, h3, h4⟩ := PR.then_eq_ok h2
           cases h4
           have := i2 _ _ _ _ _ h1
           have := (need_ok h3).2.2
           simp; omega
       · cases h
   · simp only [binE] at h
     obtain ⟨a, b, h1, h2⟩ := PR.then_eq_ok h
     have := i1 _ _ _ _ h1
     have := i3 _ _ _ _ _ _ h2
     omega
   · cases ts with
     | nil => simp only [binL] at h; cases h; simp
     | cons t q =>
       simp only [binL] at h
       split at h
       · obtain ⟨a, b, h1, h2⟩ := PR.then_eq_ok h
         have := i2 _ _ _ _ _ h1
         have := i3 _ _ _ _ _ _ h2
         simp; omega
       · cases h; simp
theorem opnd_short {n : Nat} {d : Int} {ts : List Tk} {e : Ex} {r : List Tk} (h : opnd fnd L n d ts = .ok e r) : r.length < ts.length := (expr_short n).1 _ _ _ _ h
theorem binE_short {n : Nat} {v d : Int} {ts : List Tk} {e : Ex} {r : List Tk} (h : binE fnd L n v d ts = .ok e r) : r.length < ts.length := (expr_short n).2.1 _ _ _ _ _ h
theorem list_short {one : List Tk → PR Dc} (ho : ∀ ts d r, one ts = .ok d r → r.length < ts.length) : ∀ (n : Nat) (acc : List Dc) (ts : List Tk) (l : List Dc) (r : List Tk), listP L one n acc ts = .ok l r → r.length < ts.length
 | 0, acc, ts, l, r, h => by simp [listP] at h
 | n + 1, acc, ts, l, r, h => by
   simp only [listP] at h
   obtain ⟨a, b, h1, h2⟩ := PR.then_eq_ok h
   have k := ho _ _ _ h1
   split at h2
   · rename_i hi
     have := list_short ho n _ _ _ _ h2
     have := isT_tail hi
     omega
   · obtain ⟨u, c, h3, h4⟩ := PR.then_eq_ok h2
     cases h4
     have := (need_ok h3).2.2
     omega
theorem nameP_short {ts : List Tk} {d : Dc} {r : List Tk} (h : nameP L ts = .ok d r) : r.length < ts.length := by have := name_ok h; omega
theorem firstP_short {ts : List Tk} {d : Dc} {r : List Tk} (h : firstP L ts = .ok d r) : r.length < ts.length := by
 unfold firstP at h
 obtain ⟨a, b, h1, h2⟩ := PR.then_eq_ok h
 have k := nameP_short h1
 split at h2
 · rename_i i1
   have q1 := isT_tail i1
   split at h2
   · rename_i i2
     have q2 := isT_tail i2
     obtain ⟨c, e, h3, h4⟩ := PR.then_eq_ok h2
     have := num_ok h3
     cases h4
     omega
   · obtain ⟨c, e, h3, h4⟩ := PR.then_eq_ok h2
     have := num_ok h3
     cases h4
     omega
 · cases h2; exact k
theorem paren_short {n : Nat} {ts : List Tk} {e : Ex} {r : List Tk} (h : parenP fnd L n ts = .ok e r) : r.length < ts.length := by
 unfold parenP at h
 obtain ⟨u, b, h1, h2⟩ := PR.then_eq_ok h
 obtain ⟨a, c, h3, h4⟩ := PR.then_eq_ok h2
 obtain ⟨u', d, h5, h6⟩ := PR.then_eq_ok h4
 cases h6
 have := (need_ok h1).2.2
 have := binE_short h3
 have := (need_ok h5).2.2
 omega
theorem open_short {d : Int} {ts : List Tk} {u : Unit} {r : List Tk} (h : openP L d ts = .ok u r) : r.length + 1 = ts.length := by
 unfold openP at h
 obtain ⟨a, b, h1, h2⟩ := PR.then_eq_ok h
 split at h2
 · cases h2
 · cases h2
   exact (need_ok h1).2.2
theorem change_short {n : Nat} {t : Tk} {ts : List Tk} {s : St} {r : List Tk} (h : changeP fnd L n t ts = .ok s r) : r.length < ts.length := by
 unfold changeP at h
 obtain ⟨u, b, h1, h2⟩ := PR.then_eq_ok h
 have := (need_ok h1).2.2
 split at h2
 · rename_i i1
   have := isT_tail i1
   obtain ⟨u1, b1, h3, h4⟩ := PR.then_eq_ok h2
   obtain ⟨u2, b2, h5, h6⟩ := PR.then_eq_ok h4
   obtain ⟨u3, b3, h7, h8⟩ := PR.then_eq_ok h6
   obtain ⟨u4, b4, h9, h10⟩ := PR.then_eq_ok h8
   obtain ⟨u5, b5, h11, h12⟩ := PR.then_eq_ok h10
   obtain ⟨u6, b6, h13, h14⟩ := PR.then_eq_ok h12
   cases h14
   have := (need_ok h3).2.2
   have := name_ok h5
   have := (need_ok h7).2.2
   have := binE_short h9
   have := (need_ok h11).2.2
   have := (need_ok h13).2.2
   omega
 · obtain ⟨u4, b4, h9, h10⟩ := PR.then_eq_ok h2
   obtain ⟨u5, b5, h11, h12⟩ := PR.then_eq_ok h10
   cases h12
   have := binE_short h9
   have := (need_ok h11).2.2
   omega
theorem stmt_short : ∀ n : Nat,
 (∀ d ts s r, stmtP fnd L n d ts = .ok s r → r.length < ts.length) ∧
 (∀ d acc ts l r, restP fnd L n d acc ts = .ok l r → r.length < ts.length) := by
 intro n
 induction n with
 | zero => exact ⟨fun d ts s r h => by simp [stmtP] at h, fun d acc ts l r h => by simp [restP] at h⟩
 | succ n ih =>
   obtain ⟨i1, i2⟩ := ih
   refine ⟨fun d ts s r h => ?_, fun d acc ts l r h => ?_⟩
   · cases ts with
     | nil => simp [stmtP] at h
     | cons t q =>
       simp only [stmtP] at h
       rw [List.length_cons]
       split at h
       · have := change_short h; omega
       split at h
       · obtain ⟨u1, b1, h1, h2⟩ := PR.then_eq_ok h
         obtain ⟨u2, b2, h3, h4⟩ := PR.then_eq_ok h2
         obtain ⟨u3, b3, h5, h6⟩ := PR.then_eq_ok h4
         have := paren_short h1
         have := open_short h3
         have := i2 _ _ _ _ _ h5
         split at h6
         · rename_i hi
           have := isT_tail hi
           obtain ⟨u4, b4, h7, h8⟩ := PR.then_eq_ok h6
           obtain ⟨u5, b5, h9, h10⟩ := PR.then_eq_ok h8
           have := open_short h7
           have := i2 _ _ _ _ _ h9
           cases h10
           omega
         · cases h6; omega
       split at h
       · obtain ⟨u1, b1, h1, h2⟩ := PR.then_eq_ok h
         obtain ⟨u2, b2, h3, h4⟩ := PR.then_eq_ok h2
         obtain ⟨u3, b3, h5, h6⟩ := PR.then_eq_ok h4
         have := paren_short h1
         have := open_short h3
         have := i2 _ _ _ _ _ h5
         cases h6; omega
       split at h
       · obtain ⟨u1, b1, h1, h2⟩ := PR.then_eq_ok h
         obtain ⟨u2, b2, h3, h4⟩ := PR.then_eq_ok h2
         obtain ⟨u3, b3, h5, h6⟩ := PR.then_eq_ok h4
         have := name_ok h1
         have := open_short h3
         have := i2 _ _ _ _ _ h5
         cases h6; omega
       split at h
       · obtain ⟨u1, b1, h1, h2⟩ := PR.then_eq_ok h
         obtain ⟨u2, b2, h3, h4⟩ := PR.then_eq_ok h2
         have := binE_short h1
         have := (need_ok h3).2.2
         cases h4; omega
       split at h
       · obtain ⟨u1, b1, h1, h2⟩ := PR.then_eq_ok h
         have := (need_ok h1).2.2
         cases h2; omega
       · cases h
   · simp only [restP] at h
     split at h
     · rename_i hi
       cases h
       have := isT_tail hi
       omega
     · obtain ⟨a, b, h1, h2⟩ := PR.then_eq_ok h
       have := i1 _ _ _ _ h1
       have := i2 _ _ _ _ _ h2
       omega
theorem stmtP_short {n : Nat} {d : Int} {ts : List Tk} {s : St} {r : List Tk} (h : stmtP fnd L n d ts = .ok s r) : r.length < ts.length := (stmt_short n).1 _ _ _ _ h
theorem restP_short {n : Nat} {d : Int} {acc : List St} {ts : List Tk} {l : List St} {r : List Tk} (h : restP fnd L n d acc ts = .ok l r) : r.length < ts.length := (stmt_short n).2 _ _ _ _ _ h
theorem locals_short : ∀ (n : Nat) (acc : List Dc) (ts : List Tk) (l : List Dc) (r : List Tk), localsP L n acc ts = .ok l r → r.length ≤ ts.length
 | 0, acc, ts, l, r, h => by simp [localsP] at h
 | n + 1, acc, ts, l, r, h => by
   simp only [localsP] at h
   split at h
   · rename_i hi
     have := isT_tail hi
     obtain ⟨a, b, h1, h2⟩ := PR.then_eq_ok h
     have := list_short (L := L) (fun _ _ _ h => nameP_short h) n _ _ _ _ h1
     have := locals_short n _ _ _ _ h2
     omega
   · cases h; exact Nat.le_refl _
theorem thread_short {n : Nat} {ts : List Tk} {t : Th} {r : List Tk} (h : threadP fnd L n ts = .ok t r) : r.length < ts.length := by
 unfold threadP at h
 obtain ⟨u1, b1, h1, h2⟩ := PR.then_eq_ok h
 obtain ⟨u2, b2, h3, h4⟩ := PR.then_eq_ok h2
 obtain ⟨u3, b3, h5, h6⟩ := PR.then_eq_ok h4
 obtain ⟨u4, b4, h7, h8⟩ := PR.then_eq_ok h6
 cases h8
 have := name_ok h1
 have := open_short h3
 have := locals_short _ _ _ _ _ h5
 have := restP_short h7
 omega
end
end Go.Proofs.YtfogkobgjojpiaaGreatDoor

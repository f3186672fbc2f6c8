/- The proof, part 2: texts that belong together, in one. -/
import Derived.Test.YtieeaehabjjaoaaGreatDoorHAA
import Derived.Lib.Hide
import Derived.PlainAid
import Derived.WalkKit
import Derived.Below
import Derived.MapKept
import Derived.WalkLawsBesides
import Derived.Laws.EntriesVeiled
import Derived.Laws.Rows
import Derived.Deep.QuietTactic
import Derived.BigQuiet
import Derived.BigRegion
import Derived.Outline
import Derived.Deep.DeepCutAuto
import Derived.Deep.RegionHeld3
import Derived.OrdersHeld
import Derived.Shelf.Abstract
import Derived.Deep.RegionHeldLaw
import Derived.Deep.LoopGhost
set_option maxRecDepth 100000
set_option maxHeartbeats 20000000
namespace Go.Proofs.YtieeaehabjjaoaaGreatDoor
open Go.RowKit
set_option linter.unusedVariables false
theorem nat_beq (n m:Nat):((n:Int)==(m:Int))=decide (n=m):=by
 by_cases h:n=m
 · subst h;simp
 · rw [decide_eq_false h];exact int_f (by omega)
theorem empty_of {s:ByteArray} (h:¬ 0<s.size):s=⟨#[]⟩:=by
 cases s with
 | mk d =>
   have h1:(ByteArray.mk d).size=0:=by omega
   have h2:d.size=0:=h1
   simp at h2;rw [h2]
theorem nonempty_facts {s:ByteArray} (h0:0<s.size):s.toList.isEmpty=false∧¬ s.toList=[]:=by
 have hfr:s.data.toList=s[0]::bytesFrom s 1:=from_at s 0 h0
 exact ⟨by rw [Lib.toList_data,hfr];rfl,by rw [Lib.toList_data,hfr];simp⟩
def nameB (s:ByteArray):Bool:=decide (0<s.size)&&(decide (s.size≤32)&&(!digitB (PlainAid.bt s 0)&&(!wordB s&&decide (spanN namedB s.data.toList=s.size))))
theorem isname_any (s:ByteArray) (w:World) (T:LNm w):Calls Tryz.prog 40 #[.string s] w fun e w'=>e=.returned (.bool (nameB s))∧w=w':=by
 by_cases h0:0<s.size
 · obtain ⟨hne, hne2⟩ := nonempty_facts h0
   by_cases h32:(32:Int)<(s.size:Int)
   · have hR : Hid (nameB s = false) := by
      unfold nameB
      rw [Hid,decide_eq_true h0,decide_eq_false (p:=s.size≤32) (by omega)];rfl
     rw [hR.out]
     go_enter Tryz.func40,Tryz.ntmps40
     go_wp2
     go_ret
     exact ⟨rfl,rfl⟩
   · have hs32 : s.size ≤ 32 := by omega
     have hx0:=PlainAid.bt_nonneg s 0
     have hx1:=PlainAid.bt_le s 0
     obtain ⟨c,hc⟩:∃ c,Hid (c=PlainAid.bt s 0):=⟨_,rfl⟩
     rw [← hc.out] at hx0 hx1
     have hbt0:∀ h:0<s.size,((s[0]'h).toNat:Int)=c:=fun h=>by rw [hc.out];exact PlainAid.get_bt s 0 h
     obtain ⟨q1,hq1⟩:∃ q,Hid (q=digitB c):=⟨_,rfl⟩
     obtain ⟨q2,hq2⟩:∃ q,Hid (q=wordB s):=⟨_,rfl⟩
     obtain ⟨n,hn⟩:∃ n,Hid (n=spanN namedB s.data.toList):=⟨_,rfl⟩
     have H1:Hid (∀ W:World,Calls Tryz.prog 74 #[.int .u8 c] W fun e w'=>e=.returned (.bool q1)∧W=w'):=fun W=>by
      rw [hq1.out];exact digit_any c hx0 hx1 W
     have H2:Hid (Calls Tryz.prog 75 #[.string s] w fun e w'=>e=.returned (.bool q2)∧w=w'):=by
      rw [hq2.out];exact word_nm s w T
     have H3:Hid (∀ W:World,Calls Tryz.prog 76 #[.string s,.func (.func 77) #[] #[]] W fun e w'=>e=.returned (.int .i64 n)∧W=w'):=fun W=>by
      rw [hn.out];exact span_named s (by omega) W
     have hR:Hid (nameB s=(!q1&&(!q2&&decide (n=s.size)))):=by
      rw [Hid,hq1.out,hq2.out,hn.out,hc.out]
      unfold nameB
      rw [decide_eq_true h0,decide_eq_true hs32];rfl
     rw [hR.out]
     clear T
     go_enter Tryz.func40,Tryz.ntmps40
     go_wp2_with (first
      | (go_at_call 74;refine (H1.out _).mono ?_;rintro e w' ⟨rfl,rfl⟩)
      | (go_at_call 75;refine (H2.out).mono ?_;rintro e w' ⟨rfl,rfl⟩)
      | (go_at_call 76;refine (H3.out _).mono ?_;rintro e w' ⟨rfl,rfl⟩))
     · go_ret
       refine ⟨ret_bool ?_,rfl⟩
       simp [*]
     · go_ret
       refine ⟨ret_bool ?_,rfl⟩
       simp [*]
     · go_ret
       refine ⟨ret_bool ?_,rfl⟩
       rw [nat_beq]
       simp [*]
 · obtain rfl := empty_of h0
   have hR:Hid (nameB ⟨#[]⟩=false):=rfl
   rw [hR.out]
   clear h0
   go_enter Tryz.func40,Tryz.ntmps40
   go_wp2
   go_ret
   exact ⟨rfl,rfl⟩
open Go.RowKit
set_option linter.unusedVariables false
set_option linter.unusedSimpArgs false
def wordL (l:List UInt8):Bool:=(l==[115,104,97,114,101,100]) || (l==[108,111,99,107]) || (l==[116,104,114,101,97,100]) || (l==[108,111,99,97,108]) || (l==[105,102]) || (l==[101,108,115,101]) || (l==[119,104,105,108,101]) || (l==[112,114,105,110,116]) || (l==[115,107,105,112]) || (l==[115,119,97,112])
theorem wordB_list (s:ByteArray):wordB s=wordL s.toList:=by
 have h:∀ (v:ByteArray) (l:List UInt8),v.toList=l→(v.toList==s.toList)=(s.toList==l):=fun v l e=>by
  rw [e];exact Bool.eq_iff_iff.2 ⟨fun h=>by simpa using (by simpa using h:l=s.toList).symm,fun h=>by simpa using (by simpa using h:s.toList=l).symm⟩
 unfold wordB wordL
 rw [h (wordAt 0) [115,104,97,114,101,100] (by rw [Lib.toList_data];rfl),h (wordAt 1) [108,111,99,107] (by rw [Lib.toList_data];rfl),h (wordAt 2) [116,104,114,101,97,100] (by rw [Lib.toList_data];rfl),h (wordAt 3) [108,111,99,97,108] (by rw [Lib.toList_data];rfl),h (wordAt 4) [105,102] (by rw [Lib.toList_data];rfl),h (wordAt 5) [101,108,115,101] (by rw [Lib.toList_data];rfl),h (wordAt 6) [119,104,105,108,101] (by rw [Lib.toList_data];rfl),h (wordAt 7) [112,114,105,110,116] (by rw [Lib.toList_data];rfl),h (wordAt 8) [115,107,105,112] (by rw [Lib.toList_data];rfl),h (wordAt 9) [115,119,97,112] (by rw [Lib.toList_data];rfl)]
theorem rword_any (s:ByteArray) (w:World):Calls Tryz.prog 90 #[.string s] w fun e w'=>e=.returned (.bool (wordB s))∧w=w':=by
 obtain ⟨R,hR⟩:∃ R,Hid (R=wordB s):=⟨_,rfl⟩
 rw [← hR.out]
 obtain ⟨p0,e0⟩:∃ p,(s.toList==([115,104,97,114,101,100]:List UInt8))=p:=⟨_,rfl⟩
 obtain ⟨p1,e1⟩:∃ p,(s.toList==([108,111,99,107]:List UInt8))=p:=⟨_,rfl⟩
 obtain ⟨p2,e2⟩:∃ p,(s.toList==([116,104,114,101,97,100]:List UInt8))=p:=⟨_,rfl⟩
 obtain ⟨p3,e3⟩:∃ p,(s.toList==([108,111,99,97,108]:List UInt8))=p:=⟨_,rfl⟩
 obtain ⟨p4,e4⟩:∃ p,(s.toList==([105,102]:List UInt8))=p:=⟨_,rfl⟩
 obtain ⟨p5,e5⟩:∃ p,(s.toList==([101,108,115,101]:List UInt8))=p:=⟨_,rfl⟩
 obtain ⟨p6,e6⟩:∃ p,(s.toList==([119,104,105,108,101]:List UInt8))=p:=⟨_,rfl⟩
 obtain ⟨p7,e7⟩:∃ p,(s.toList==([112,114,105,110,116]:List UInt8))=p:=⟨_,rfl⟩
 obtain ⟨p8,e8⟩:∃ p,(s.toList==([115,107,105,112]:List UInt8))=p:=⟨_,rfl⟩
 obtain ⟨p9,e9⟩:∃ p,(s.toList==([115,119,97,112]:List UInt8))=p:=⟨_,rfl⟩
 have hRR:Hid (R=(p0 || p1 || p2 || p3 || p4 || p5 || p6 || p7 || p8 || p9)):=by
  rw [Hid,hR.out,wordB_list s,← e0,← e1,← e2,← e3,← e4,← e5,← e6,← e7,← e8,← e9];rfl
 clear hR
 go_enter Tryz.func90,Tryz.ntmps90
 go_wp2
 all_goals
  go_ret
  refine ⟨ret_bool ?_,rfl⟩
  rw [hRR.out]
  clear hRR
  simp_all
open Go.RowKit
set_option linter.unusedVariables false
theorem rletter_any (c:Int) (h0:0≤c) (h1:c≤255) (w:World):Calls Tryz.prog 91 #[.int .u8 c] w fun e w'=>e=.returned (.bool (letterB c))∧w=w':=by
 by_cases h:97≤c∧c≤122
 · have e : letterB c = true := b_t (by omega)
   rw [e]
   clear e
   obtain ⟨k0,k1⟩:=h
   go_enter Tryz.func91,Tryz.ntmps91
   go_wp2
   go_ret
   exact ⟨rfl,rfl⟩
 by_cases h:65≤c∧c≤90
 · have e : letterB c = true := b_t (by omega)
   rw [e]
   clear e
   obtain ⟨k0,k1⟩:=h
   go_enter Tryz.func91,Tryz.ntmps91
   go_wp2
   go_ret
   exact ⟨rfl,rfl⟩
 by_cases h:c=95
 · have e : letterB c = true := b_t (by omega)
   rw [e]
   clear e
   subst h
   go_enter Tryz.func91,Tryz.ntmps91
   go_wp2
   go_ret
   exact ⟨rfl,rfl⟩
 by_cases h:c<65
 · have e : letterB c = false := b_f (by omega)
   rw [e]
   clear e
   have q:(c==95)=false:=int_f (by omega)
   go_enter Tryz.func91,Tryz.ntmps91
   go_wp2
   go_ret
   exact ⟨rfl,rfl⟩
 by_cases h:90<c∧c<95
 · have e : letterB c = false := b_f (by omega)
   rw [e]
   clear e
   have q:(c==95)=false:=int_f (by omega)
   have d90:decide (c≤90)=false:=b_f (by omega)
   go_enter Tryz.func91,Tryz.ntmps91
   go_wp2
   go_ret
   exact ⟨rfl,rfl⟩
 by_cases h:c=96
 · have e : letterB c = false := b_f (by omega)
   rw [e]
   clear e
   subst h
   go_enter Tryz.func91,Tryz.ntmps91
   go_wp2
   go_ret
   exact ⟨rfl,rfl⟩
 · have h' : 122 < c := by omega
   have e:letterB c=false:=b_f (by omega)
   have q:(c==95)=false:=int_f (by omega)
   have d90:decide (c≤90)=false:=b_f (by omega)
   have d122:decide (c≤122)=false:=b_f (by omega)
   rw [e]
   clear e
   go_enter Tryz.func91,Tryz.ntmps91
   go_wp2
   go_ret
   exact ⟨rfl,rfl⟩
theorem rdigit_any (c:Int) (h0:0≤c) (h1:c≤255) (w:World):Calls Tryz.prog 89 #[.int .u8 c] w fun e w'=>e=.returned (.bool (digitB c))∧w=w':=by
 by_cases k0:c<48
 · have e : digitB c = false := b_f (by omega)
   rw [e]
   clear e
   go_enter Tryz.func89,Tryz.ntmps89
   go_wp2
   go_ret
   exact ⟨rfl,rfl⟩
 · by_cases k1 : 57 < c
   · have e : digitB c = false := b_f (by omega)
     have hd:decide (c≤57)=false:=b_f (by omega)
     rw [e]
     clear e
     go_enter Tryz.func89,Tryz.ntmps89
     go_wp2
     go_ret
     exact ⟨rfl,rfl⟩
   · have e : digitB c = true := b_t (by omega)
     rw [e]
     clear e
     go_enter Tryz.func89,Tryz.ntmps89
     go_wp2
     go_ret
     exact ⟨rfl,rfl⟩
set_option linter.unusedVariables false
structure Tk where
 kind:Int
 text:ByteArray
 wd:Int
 pos:Int
inductive Ex where
 | mk (kind op wd:Int) (name:ByteArray) (kids:List Ex) (pos:Int)
structure Dc where
 name:ByteArray
 wd:Int
 pos:Int
inductive St where
 | mk (kind:Int) (name other:ByteArray) (e:List Ex) (body els:List St) (pos:Int)
structure Th where
 name:ByteArray
 locals:List Dc
 body:List St
 pos:Int
structure Pg where
 shared:List Dc
 locks:List Dc
 threads:List Th
theorem Ex.ind {P:Ex→Prop} (h:∀ k o w n ks a,(∀ x∈ks,P x)→P (.mk k o w n ks a)):∀ e,P e
 | .mk k o w n ks a=>h k o w n ks a fun x hx=>Ex.ind h x
termination_by e=>SizeOf.sizeOf e
decreasing_by
 have:=List.sizeOf_lt_of_mem hx
 simp only [Ex.mk.sizeOf_spec]
 omega
theorem St.ind {P:St→Prop} (h:∀ k n o e b l a,(∀ x∈b,P x)→(∀ x∈l,P x)→P (.mk k n o e b l a)):∀ s,P s
 | .mk k n o e b l a=>h k n o e b l a (fun x hx=>St.ind h x) (fun x hx=>St.ind h x)
termination_by s=>SizeOf.sizeOf s
decreasing_by
 · have := List.sizeOf_lt_of_mem hx
   simp only [St.mk.sizeOf_spec]
   omega
 · have := List.sizeOf_lt_of_mem hx
   simp only [St.mk.sizeOf_spec]
   omega
theorem Exs.ind {P:List Ex→Prop} (h0:P []) (h1:∀ k o w n ks a r,P ks→P r→P (.mk k o w n ks a::r)):∀ l,P l
 | []=>h0
 | .mk k o w n ks a::r=>h1 k o w n ks a r (Exs.ind h0 h1 ks) (Exs.ind h0 h1 r)
termination_by l=>SizeOf.sizeOf l
theorem Sts.ind {P:List St→Prop} (h0:P []) (h1:∀ k n o e b l a r,P b→P l→P r→P (.mk k n o e b l a::r)):∀ l,P l
 | []=>h0
 | .mk k n o e b l a::r=>h1 k n o e b l a r (Sts.ind h0 h1 b) (Sts.ind h0 h1 l) (Sts.ind h0 h1 r)
termination_by l=>SizeOf.sizeOf l
def Ex.kind:Ex→Int | .mk k _ _ _ _ _=>k
def Ex.op:Ex→Int | .mk _ o _ _ _ _=>o
def Ex.wd:Ex→Int | .mk _ _ w _ _ _=>w
def Ex.name:Ex→ByteArray | .mk _ _ _ n _ _=>n
def Ex.kids:Ex→List Ex | .mk _ _ _ _ k _=>k
def Ex.pos:Ex→Int | .mk _ _ _ _ _ p=>p
def St.kind:St→Int | .mk k _ _ _ _ _ _=>k
def St.name:St→ByteArray | .mk _ n _ _ _ _ _=>n
def St.other:St→ByteArray | .mk _ _ o _ _ _ _=>o
def St.e:St→List Ex | .mk _ _ _ e _ _ _=>e
def St.body:St→List St | .mk _ _ _ _ b _ _=>b
def St.els:St→List St | .mk _ _ _ _ _ l _=>l
def St.pos:St→Int | .mk _ _ _ _ _ _ p=>p
abbrev Bs:=List UInt8
def biX (op:Int) (p:Int) (a b:Ex):Ex:=.mk 4 op 0 ⟨#[]⟩ [a,b] p
section
variable (fnd:Bs→Int × Bool) (L:Int)
def fuel (ts:List Tk):Nat:=3*ts.length+5
end
open Go.RowKit
set_option linter.unusedVariables false
mutual
def exIn (R:Nat→Prop) (w:World):Ex→Nat→Nat→Prop
 | .mk k o wd nm ks p, b, off =>
   w.cell? ⟨b,off,none⟩=some (.int .u8 k)∧w.cell? ⟨b,off+1,none⟩=some (.int .u8 o)∧w.cell? ⟨b,off+2,none⟩=some (.int .i64 wd)∧w.cell? ⟨b,off+3,none⟩=some (.string nm) ∧
   (∃ a cap,w.cell? ⟨b,off+4,none⟩=some (.slice a ks.length cap)∧(ks.isEmpty=true∨∃ g q,a=some ⟨g,q,none⟩∧R g∧exsIn R w ks g q))∧w.cell? ⟨b,off+5,none⟩=some (.int .i64 p)
def exsIn (R:Nat→Prop) (w:World):List Ex→Nat→Nat→Prop
 | [],_,_=>True
 | e::r,b,off=>exIn R w e b off∧exsIn R w r b (off+6)
end
def exsAt (R:Nat→Prop) (w:World) (l:List Ex) (a:Option Addr):Prop:=l.isEmpty=true∨∃ g q,a=some ⟨g,q,none⟩∧R g∧exsIn R w l g q
mutual
def stIn (R:Nat→Prop) (w:World):St→Nat→Nat→Prop
 | .mk k n o e b l p, g, off =>
   w.cell? ⟨g,off,none⟩=some (.int .u8 k)∧w.cell? ⟨g,off+1,none⟩=some (.string n)∧w.cell? ⟨g,off+2,none⟩=some (.string o) ∧
   (∃ a cap,w.cell? ⟨g,off+3,none⟩=some (.slice a e.length cap)∧exsAt R w e a) ∧
   (∃ a cap,w.cell? ⟨g,off+4,none⟩=some (.slice a b.length cap)∧(b.isEmpty=true∨∃ g q,a=some ⟨g,q,none⟩∧R g∧stsIn R w b g q)) ∧
   (∃ a cap,w.cell? ⟨g,off+5,none⟩=some (.slice a l.length cap)∧(l.isEmpty=true∨∃ g q,a=some ⟨g,q,none⟩∧R g∧stsIn R w l g q))∧w.cell? ⟨g,off+6,none⟩=some (.int .i64 p)
def stsIn (R:Nat→Prop) (w:World):List St→Nat→Nat→Prop
 | [],_,_=>True
 | s::r,b,off=>stIn R w s b off∧stsIn R w r b (off+7)
end
def stsAt (R:Nat→Prop) (w:World) (l:List St) (a:Option Addr):Prop:=l.isEmpty=true∨∃ g q,a=some ⟨g,q,none⟩∧R g∧stsIn R w l g q
def dcIn (w:World) (d:Dc) (b off:Nat):Prop:=w.cell? ⟨b,off,none⟩=some (.string d.name)∧w.cell? ⟨b,off+1,none⟩=some (.int .i64 d.wd)∧w.cell? ⟨b,off+2,none⟩=some (.int .i64 d.pos)
def dcsIn (w:World):List Dc→Nat→Nat→Prop
 | [],_,_=>True
 | d::r,b,off=>dcIn w d b off∧dcsIn w r b (off+3)
def dcsAt (R:Nat→Prop) (w:World) (l:List Dc) (a:Option Addr):Prop:=l.isEmpty=true∨∃ g q,a=some ⟨g,q,none⟩∧R g∧dcsIn w l g q
def thIn (R:Nat→Prop) (w:World) (t:Th) (b off:Nat):Prop :=
 w.cell? ⟨b,off,none⟩=some (.string t.name)∧(∃ a cap,w.cell? ⟨b,off+1,none⟩=some (.slice a t.locals.length cap)∧dcsAt R w t.locals a) ∧
 (∃ a cap,w.cell? ⟨b,off+2,none⟩=some (.slice a t.body.length cap)∧stsAt R w t.body a)∧w.cell? ⟨b,off+3,none⟩=some (.int .i64 t.pos)
def thsIn (R:Nat→Prop) (w:World):List Th→Nat→Nat→Prop
 | [],_,_=>True
 | t::r,b,off=>thIn R w t b off∧thsIn R w r b (off+4)
def thsAt (R:Nat→Prop) (w:World) (l:List Th) (a:Option Addr):Prop:=l.isEmpty=true∨∃ g q,a=some ⟨g,q,none⟩∧R g∧thsIn R w l g q
def Stays (R:Nat→Prop) (w w':World):Prop:=∀ b o v,R b→w.cell? ⟨b,o,none⟩=some v→w'.cell? ⟨b,o,none⟩=some v
theorem Stays.refl (R:Nat→Prop) (w:World):Stays R w w:=fun _ _ _ _ h=>h
section
variable {R R':Nat→Prop} {w w':World}
theorem exsIn_stays (hw:Stays R w w') (hm:∀ b,R b→R' b):∀ (l:List Ex) (b off:Nat),R b→exsIn R w l b off→exsIn R' w' l b off:=by
 intro l
 induction l using Exs.ind with
 | h0=>intro b off _ _;exact trivial
 | h1 k o wd nm ks p r ih1 ih2 =>
   intro b off hb h
   obtain ⟨⟨c0,c1,c2,c3,⟨a,cap,c4,h4⟩,c5⟩,hr⟩:=h
   refine ⟨⟨hw _ _ _ hb c0,hw _ _ _ hb c1,hw _ _ _ hb c2,hw _ _ _ hb c3,⟨a,cap,hw _ _ _ hb c4,?_⟩,hw _ _ _ hb c5⟩,ih2 b _ hb hr⟩
   rcases h4 with h4 | ⟨g,q,rfl,hg,hi⟩
   · exact .inl h4
   · exact .inr ⟨g,q,rfl,hm g hg,ih1 g q hg hi⟩
theorem exsAt_stays (hw:Stays R w w') (hm:∀ b,R b→R' b) {l:List Ex} {a:Option Addr} (h:exsAt R w l a):exsAt R' w' l a:=by
 rcases h with h | ⟨g,q,rfl,hg,hi⟩
 · exact .inl h
 · exact .inr ⟨g,q,rfl,hm g hg,exsIn_stays hw hm l g q hg hi⟩
theorem stsIn_stays (hw:Stays R w w') (hm:∀ b,R b→R' b):∀ (l:List St) (b off:Nat),R b→stsIn R w l b off→stsIn R' w' l b off:=by
 intro l
 induction l using Sts.ind with
 | h0=>intro b off _ _;exact trivial
 | h1 k n o e bd el p r ih1 ih2 ih3 =>
   intro b off hb h
   obtain ⟨⟨c0,c1,c2,⟨a3,cap3,c3,h3⟩,⟨a4,cap4,c4,h4⟩,⟨a5,cap5,c5,h5⟩,c6⟩,hr⟩:=h
   refine ⟨⟨hw _ _ _ hb c0,hw _ _ _ hb c1,hw _ _ _ hb c2,⟨a3,cap3,hw _ _ _ hb c3,exsAt_stays hw hm h3⟩,⟨a4,cap4,hw _ _ _ hb c4,?_⟩,⟨a5,cap5,hw _ _ _ hb c5,?_⟩,hw _ _ _ hb c6⟩,ih3 b _ hb hr⟩
   · rcases h4 with h4 | ⟨g, q, rfl, hg, hi⟩
     · exact .inl h4
     · exact .inr ⟨g,q,rfl,hm g hg,ih1 g q hg hi⟩
   · rcases h5 with h5 | ⟨g, q, rfl, hg, hi⟩
     · exact .inl h5
     · exact .inr ⟨g,q,rfl,hm g hg,ih2 g q hg hi⟩
theorem stsAt_stays (hw:Stays R w w') (hm:∀ b,R b→R' b) {l:List St} {a:Option Addr} (h:stsAt R w l a):stsAt R' w' l a:=by
 rcases h with h | ⟨g,q,rfl,hg,hi⟩
 · exact .inl h
 · exact .inr ⟨g,q,rfl,hm g hg,stsIn_stays hw hm l g q hg hi⟩
theorem dcsIn_stays (hw:Stays R w w'):∀ (l:List Dc) (b off:Nat),R b→dcsIn w l b off→dcsIn w' l b off
 | [],_,_,_,_=>trivial
 | d::r,b,off,hb,⟨⟨c0,c1,c2⟩,hr⟩=>⟨⟨hw _ _ _ hb c0,hw _ _ _ hb c1,hw _ _ _ hb c2⟩,dcsIn_stays hw r b _ hb hr⟩
theorem dcsAt_stays (hw:Stays R w w') (hm:∀ b,R b→R' b) {l:List Dc} {a:Option Addr} (h:dcsAt R w l a):dcsAt R' w' l a:=by
 rcases h with h | ⟨g,q,rfl,hg,hi⟩
 · exact .inl h
 · exact .inr ⟨g,q,rfl,hm g hg,dcsIn_stays hw l g q hg hi⟩
theorem thsIn_stays (hw:Stays R w w') (hm:∀ b,R b→R' b):∀ (l:List Th) (b off:Nat),R b→thsIn R w l b off→thsIn R' w' l b off
 | [],_,_,_,_=>trivial
 | t :: r, b, off, hb, ⟨⟨c0, ⟨a1, cap1, c1, h1⟩, ⟨a2, cap2, c2, h2⟩, c3⟩, hr⟩ =>
   ⟨⟨hw _ _ _ hb c0,⟨a1,cap1,hw _ _ _ hb c1,dcsAt_stays hw hm h1⟩,⟨a2,cap2,hw _ _ _ hb c2,stsAt_stays hw hm h2⟩,hw _ _ _ hb c3⟩,thsIn_stays hw hm r b _ hb hr⟩
theorem thsAt_stays (hw:Stays R w w') (hm:∀ b,R b→R' b) {l:List Th} {a:Option Addr} (h:thsAt R w l a):thsAt R' w' l a:=by
 rcases h with h | ⟨g,q,rfl,hg,hi⟩
 · exact .inl h
 · exact .inr ⟨g,q,rfl,hm g hg,thsIn_stays hw hm l g q hg hi⟩
end
theorem cell_lt {w:World} {a:Addr} {v:Value} (h:w.cell? a=some v):a.block<w.heap.size:=by
 apply Nat.lt_of_not_le
 intro hn
 simp [World.cell?,Array.getElem?_eq_none hn] at h
theorem exsAt_in {R:Nat→Prop} {w:World} {l:List Ex} {a:Option Addr} (h:exsAt R w l a):exsAt (fun b=>R b∧b<w.heap.size) w l a:=by
 have key:∀ (l:List Ex) (b off:Nat),exsIn R w l b off→exsIn (fun b=>R b∧b<w.heap.size) w l b off:=by
  intro l
  induction l using Exs.ind with
  | h0=>intro b off _;exact trivial
  | h1 k o wd nm ks p r ih1 ih2 =>
    intro b off h
    obtain ⟨⟨c0,c1,c2,c3,⟨a,cap,c4,h4⟩,c5⟩,hr⟩:=h
    refine ⟨⟨c0,c1,c2,c3,⟨a,cap,c4,?_⟩,c5⟩,ih2 b _ hr⟩
    rcases h4 with h4 | ⟨g,q,rfl,hg,hi⟩
    · exact .inl h4
    · cases ks with
      | nil=>exact .inl rfl
      | cons x xs =>
        refine .inr ⟨g,q,rfl,⟨hg,?_⟩,ih1 g q hi⟩
        obtain ⟨k',o',wd',nm',ks',p'⟩:=x
        exact cell_lt hi.1.1
 rcases h with h | ⟨g,q,rfl,hg,hi⟩
 · exact .inl h
 · cases l with
   | nil=>exact .inl rfl
   | cons x xs =>
     refine .inr ⟨g,q,rfl,⟨hg,?_⟩,key _ g q hi⟩
     obtain ⟨k',o',wd',nm',ks',p'⟩:=x
     exact cell_lt hi.1.1
theorem exsAt_mono {R R':Nat→Prop} {w:World} {l:List Ex} {a:Option Addr} (h:exsAt R w l a) (hm:∀ b,R b→R' b):exsAt R' w l a:=exsAt_stays (Stays.refl R w) hm h
theorem exsIn_get {R:Nat→Prop} {w:World} : ∀ {l:List Ex} {b off:Nat} (i:Nat) (x:Ex),exsIn R w l b off→l[i]? = some x→exIn R w x b (off+i*6)
 | e::r,b,off,0,x,h,hx=>by cases hx;exact h.1
 | e :: r, b, off, i + 1, x, h, hx => by
   have:=exsIn_get i x h.2 hx
   rw [show off+(i+1)*6=off+6+i*6 by omega];exact this
theorem stsIn_get {R:Nat→Prop} {w:World} : ∀ {l:List St} {b off:Nat} (i:Nat) (x:St),stsIn R w l b off→l[i]? = some x→stIn R w x b (off+i*7)
 | e::r,b,off,0,x,h,hx=>by cases hx;exact h.1
 | e :: r, b, off, i + 1, x, h, hx => by
   have:=stsIn_get i x h.2 hx
   rw [show off+(i+1)*7=off+7+i*7 by omega];exact this
theorem dcsIn_get {w:World} : ∀ {l:List Dc} {b off:Nat} (i:Nat) (x:Dc),dcsIn w l b off→l[i]? = some x→dcIn w x b (off+i*3)
 | e::r,b,off,0,x,h,hx=>by cases hx;exact h.1
 | e :: r, b, off, i + 1, x, h, hx => by
   have:=dcsIn_get i x h.2 hx
   rw [show off+(i+1)*3=off+3+i*3 by omega];exact this
theorem thsIn_get {R:Nat→Prop} {w:World} : ∀ {l:List Th} {b off:Nat} (i:Nat) (x:Th),thsIn R w l b off→l[i]? = some x→thIn R w x b (off+i*4)
 | e::r,b,off,0,x,h,hx=>by cases hx;exact h.1
 | e :: r, b, off, i + 1, x, h, hx => by
   have:=thsIn_get i x h.2 hx
   rw [show off+(i+1)*4=off+4+i*4 by omega];exact this
def exCells (e:Ex) (a:Option Addr) (cap:Nat):List Value:=[.int .u8 e.kind,.int .u8 e.op,.int .i64 e.wd,.string e.name,.slice a e.kids.length cap,.int .i64 e.pos]
def stCells (s:St) (a3:Option Addr) (c3:Nat) (a4:Option Addr) (c4:Nat) (a5:Option Addr) (c5:Nat):List Value:=[.int .u8 s.kind,.string s.name,.string s.other,.slice a3 s.e.length c3,.slice a4 s.body.length c4,.slice a5 s.els.length c5,.int .i64 s.pos]
def dcCells (d:Dc):List Value:=[.string d.name,.int .i64 d.wd,.int .i64 d.pos]
def thCells (t:Th) (a1:Option Addr) (c1:Nat) (a2:Option Addr) (c2:Nat):List Value:=[.string t.name,.slice a1 t.locals.length c1,.slice a2 t.body.length c2,.int .i64 t.pos]
def exV (R:Nat→Prop) (w:World) (e:Ex) (vs:List Value):Prop:=∃ a cap,vs=exCells e a cap∧exsAt R w e.kids a
def stV (R:Nat→Prop) (w:World) (s:St) (vs:List Value):Prop:=∃ a3 c3 a4 c4 a5 c5,vs=stCells s a3 c3 a4 c4 a5 c5∧exsAt R w s.e a3∧stsAt R w s.body a4∧stsAt R w s.els a5
def thV (R:Nat→Prop) (w:World) (t:Th) (vs:List Value):Prop:=∃ a1 c1 a2 c2,vs=thCells t a1 c1 a2 c2∧dcsAt R w t.locals a1∧stsAt R w t.body a2
theorem exV_stays {R R':Nat→Prop} {w w':World} (hw:Stays R w w') (hm:∀ b,R b→R' b) {e:Ex} {vs:List Value} (h:exV R w e vs):exV R' w' e vs:=by
 obtain ⟨a,c,rfl,h⟩:=h
 exact ⟨a,c,rfl,exsAt_stays hw hm h⟩
theorem stV_stays {R R':Nat→Prop} {w w':World} (hw:Stays R w w') (hm:∀ b,R b→R' b) {e:St} {vs:List Value} (h:stV R w e vs):stV R' w' e vs:=by
 obtain ⟨a3,c3,a4,c4,a5,c5,rfl,h3,h4,h5⟩:=h
 exact ⟨a3,c3,a4,c4,a5,c5,rfl,exsAt_stays hw hm h3,stsAt_stays hw hm h4,stsAt_stays hw hm h5⟩
theorem thV_stays {R R':Nat→Prop} {w w':World} (hw:Stays R w w') (hm:∀ b,R b→R' b) {e:Th} {vs:List Value} (h:thV R w e vs):thV R' w' e vs:=by
 obtain ⟨a3,c3,a4,c4,rfl,h3,h4⟩:=h
 exact ⟨a3,c3,a4,c4,rfl,dcsAt_stays hw hm h3,stsAt_stays hw hm h4⟩
def cellsIn (w:World) (b off:Nat) (vs:List Value):Prop:=∀ j v,vs[j]? = some v→w.cell? ⟨b,off+j,none⟩=some v
theorem exIn_of {R:Nat→Prop} {w:World} {e:Ex} {vs:List Value} {b off:Nat} (h:exV R w e vs) (hc:cellsIn w b off vs):exIn R w e b off:=by
 obtain ⟨a,c,rfl,h⟩:=h
 obtain ⟨k,o,wd,nm,ks,p⟩:=e
 exact ⟨hc 0 _ rfl,hc 1 _ rfl,hc 2 _ rfl,hc 3 _ rfl,⟨a,c,hc 4 _ rfl,h⟩,hc 5 _ rfl⟩
theorem stIn_of {R:Nat→Prop} {w:World} {e:St} {vs:List Value} {b off:Nat} (h:stV R w e vs) (hc:cellsIn w b off vs):stIn R w e b off:=by
 obtain ⟨a3,c3,a4,c4,a5,c5,rfl,h3,h4,h5⟩:=h
 obtain ⟨k,n,o,e,bd,el,p⟩:=e
 exact ⟨hc 0 _ rfl,hc 1 _ rfl,hc 2 _ rfl,⟨a3,c3,hc 3 _ rfl,h3⟩,⟨a4,c4,hc 4 _ rfl,h4⟩,⟨a5,c5,hc 5 _ rfl,h5⟩,hc 6 _ rfl⟩
theorem thIn_of {R:Nat→Prop} {w:World} {e:Th} {vs:List Value} {b off:Nat} (h:thV R w e vs) (hc:cellsIn w b off vs):thIn R w e b off:=by
 obtain ⟨a3,c3,a4,c4,rfl,h3,h4⟩:=h
 exact ⟨hc 0 _ rfl,⟨a3,c3,hc 1 _ rfl,h3⟩,⟨a4,c4,hc 2 _ rfl,h4⟩,hc 3 _ rfl⟩
theorem dcIn_of {w:World} {d:Dc} {b off:Nat} (hc:cellsIn w b off (dcCells d)):dcIn w d b off:=⟨hc 0 _ rfl,hc 1 _ rfl,hc 2 _ rfl⟩
theorem cellsIn_app {w:World} {b off:Nat} {xs ys:List Value} (h:cellsIn w b off (xs++ys)):cellsIn w b off xs∧cellsIn w b (off+xs.length) ys:=by
 refine ⟨fun j v hj=>h j v ?_,fun j v hj=>?_⟩
 · rw [List.getElem?_append_left (List.getElem?_eq_some_iff.1 hj).1];exact hj
 · have := h (xs.length + j) v (by rw [List.getElem?_append_right (by omega)]; simpa using hj)
   rw [← Nat.add_assoc] at this;exact this
def exsV (R:Nat→Prop) (w:World):List Ex→List Value→Prop
 | [],xs=>xs=[]
 | e::r,xs=>∃ vs ys,xs=vs++ys∧exV R w e vs∧exsV R w r ys
def stsV (R:Nat→Prop) (w:World):List St→List Value→Prop
 | [],xs=>xs=[]
 | e::r,xs=>∃ vs ys,xs=vs++ys∧stV R w e vs∧stsV R w r ys
def thsV (R:Nat→Prop) (w:World):List Th→List Value→Prop
 | [],xs=>xs=[]
 | e::r,xs=>∃ vs ys,xs=vs++ys∧thV R w e vs∧thsV R w r ys
def dcsL (l:List Dc):List Value:=l.flatMap dcCells
section
variable {R R':Nat→Prop} {w w':World}
theorem exsV_snoc:∀ {l:List Ex} {xs vs:List Value} {e:Ex},exsV R w l xs→exV R w e vs→exsV R w (l++[e]) (xs++vs)
 | [],xs,vs,e,h,he=>by cases h;exact ⟨vs,[],by simp,he,rfl⟩
 | x::r,xs,vs,e,⟨us,ys,h1,h2,h3⟩,he=>⟨us,ys++vs,by rw [h1,List.append_assoc],h2,exsV_snoc h3 he⟩
theorem stsV_snoc:∀ {l:List St} {xs vs:List Value} {e:St},stsV R w l xs→stV R w e vs→stsV R w (l++[e]) (xs++vs)
 | [],xs,vs,e,h,he=>by cases h;exact ⟨vs,[],by simp,he,rfl⟩
 | x::r,xs,vs,e,⟨us,ys,h1,h2,h3⟩,he=>⟨us,ys++vs,by rw [h1,List.append_assoc],h2,stsV_snoc h3 he⟩
theorem thsV_snoc:∀ {l:List Th} {xs vs:List Value} {e:Th},thsV R w l xs→thV R w e vs→thsV R w (l++[e]) (xs++vs)
 | [],xs,vs,e,h,he=>by cases h;exact ⟨vs,[],by simp,he,rfl⟩
 | x::r,xs,vs,e,⟨us,ys,h1,h2,h3⟩,he=>⟨us,ys++vs,by rw [h1,List.append_assoc],h2,thsV_snoc h3 he⟩
theorem exsV_stays (hw:Stays R w w') (hm:∀ b,R b→R' b):∀ {l:List Ex} {xs:List Value},exsV R w l xs→exsV R' w' l xs
 | [],xs,h=>h
 | x::r,xs,⟨us,ys,h1,h2,h3⟩=>⟨us,ys,h1,exV_stays hw hm h2,exsV_stays hw hm h3⟩
theorem stsV_stays (hw:Stays R w w') (hm:∀ b,R b→R' b):∀ {l:List St} {xs:List Value},stsV R w l xs→stsV R' w' l xs
 | [],xs,h=>h
 | x::r,xs,⟨us,ys,h1,h2,h3⟩=>⟨us,ys,h1,stV_stays hw hm h2,stsV_stays hw hm h3⟩
theorem thsV_stays (hw:Stays R w w') (hm:∀ b,R b→R' b):∀ {l:List Th} {xs:List Value},thsV R w l xs→thsV R' w' l xs
 | [],xs,h=>h
 | x::r,xs,⟨us,ys,h1,h2,h3⟩=>⟨us,ys,h1,thV_stays hw hm h2,thsV_stays hw hm h3⟩
theorem exV_len {e:Ex} {vs:List Value} (h:exV R w e vs):vs.length=6:=by obtain ⟨a,c,rfl,_⟩:=h;rfl
theorem stV_len {e:St} {vs:List Value} (h:stV R w e vs):vs.length=7:=by obtain ⟨a3,c3,a4,c4,a5,c5,rfl,_⟩:=h;rfl
theorem thV_len {e:Th} {vs:List Value} (h:thV R w e vs):vs.length=4:=by obtain ⟨a3,c3,a4,c4,rfl,_⟩:=h;rfl
theorem exsIn_of:∀ {l:List Ex} {xs:List Value} {b off:Nat},exsV R w l xs→cellsIn w b off xs→exsIn R w l b off
 | [],xs,b,off,_,_=>trivial
 | x :: r, xs, b, off, ⟨us, ys, h1, h2, h3⟩, hc => by
   subst h1
   obtain ⟨k1,k2⟩:=cellsIn_app hc
   rw [exV_len h2] at k2
   exact ⟨exIn_of h2 k1,exsIn_of h3 k2⟩
theorem stsIn_of:∀ {l:List St} {xs:List Value} {b off:Nat},stsV R w l xs→cellsIn w b off xs→stsIn R w l b off
 | [],xs,b,off,_,_=>trivial
 | x :: r, xs, b, off, ⟨us, ys, h1, h2, h3⟩, hc => by
   subst h1
   obtain ⟨k1,k2⟩:=cellsIn_app hc
   rw [stV_len h2] at k2
   exact ⟨stIn_of h2 k1,stsIn_of h3 k2⟩
theorem thsIn_of:∀ {l:List Th} {xs:List Value} {b off:Nat},thsV R w l xs→cellsIn w b off xs→thsIn R w l b off
 | [],xs,b,off,_,_=>trivial
 | x :: r, xs, b, off, ⟨us, ys, h1, h2, h3⟩, hc => by
   subst h1
   obtain ⟨k1,k2⟩:=cellsIn_app hc
   rw [thV_len h2] at k2
   exact ⟨thIn_of h2 k1,thsIn_of h3 k2⟩
theorem dcsIn_of:∀ {l:List Dc} {b off:Nat},cellsIn w b off (dcsL l)→dcsIn w l b off
 | [],b,off,_=>trivial
 | d :: r, b, off, hc => by
   obtain ⟨k1,k2⟩:=cellsIn_app (xs:=dcCells d) (ys:=dcsL r) (by simpa [dcsL] using hc)
   exact ⟨dcIn_of k1,dcsIn_of k2⟩
end
theorem dcsL_len:∀ l:List Dc,(dcsL l).length=l.length*3
 | []=>rfl
 | d :: r => by
   have:=dcsL_len r
   simp only [dcsL,List.flatMap_cons,List.length_append,List.length_cons] at this ⊢
   rw [this];simp [dcCells];omega
open Go.RowKit
set_option linter.unusedVariables false
structure Par where
 X:Nat
 ta:Option Addr
 cap:Nat
 toks:List Res
 L:Nat
 D:Nat
 S:Nat
 O:Nat
 bm:Nat
 bn:Nat
open Go.RowKit
set_option linter.unusedVariables false
theorem setRow_other {W:World} {b g:Nat} (cs:Array Value) (h:b≠g):(W.setRow g cs).heap[b]? = W.heap[b]?:=by
 simp only [World.setRow,Array.getElem?_modify]
 rw [if_neg (fun e=>h e.symm)]
def Own (W:World) (b:Nat) (t:TypeId) (cs:Array Value):Prop:=W.heap[b]? = some (.cells cs t (0,0))
theorem Own.new (W:World) (t:TypeId) (cs:Array Value):Own (W.alloc (.cells cs t)) W.heap.size t cs:=World.alloc_heap_new W _
theorem Own.lt {W:World} {b:Nat} {t:TypeId} {cs:Array Value} (h:Own W b t cs):b<W.heap.size:=(Array.getElem?_eq_some_iff.1 h).1
theorem Own.alloc {W:World} {b:Nat} {t:TypeId} {cs:Array Value} (h:Own W b t cs) (o:Obj):Own (W.alloc o) b t cs:=(((Below.refl _ W).alloc (Nat.le_refl _) o).block _ h.lt).trans h
theorem Own.below {W W':World} {b:Nat} {t:TypeId} {cs:Array Value} (h:Own W b t cs) (hb:Below W.heap.size W W'):Own W' b t cs:=(hb.block _ h.lt).trans h
theorem Own.setX {W:World} {b:Nat} {t:TypeId} {cs:Array Value} (h:Own W b t cs) {x:Nat} (j:Nat) (v:Value) (hx:x≠b):Own (W.setCell ⟨x,j,none⟩ v) b t cs:=(Below.heap_setCell _ _ _ _ (fun e=>hx e.symm)).trans h
theorem Own.drewN {W:World} {b:Nat} {t:TypeId} {cs:Array Value} (h:Own W b t cs) (n:Nat):Own (W.drewN n) b t cs:=h
theorem Own.row {W:World} {b:Nat} {t:TypeId} {cs:Array Value} (h:Own W b t cs) (ds:Array Value):Own (W.setRow b ds) b t ds:=setRow_heap _ _ _ _ _ _ h
theorem Own.other {W:World} {b g:Nat} {t:TypeId} {cs:Array Value} (h:Own W b t cs) (ds:Array Value) (hb:b≠g):Own (W.setRow g ds) b t cs:=(setRow_other ds hb).trans h
theorem stays_alloc (R:Nat→Prop) (W:World) (o:Obj):Stays R W (W.alloc o):=fun b o' v hb hv=>by
 rw [((Below.refl W.heap.size W).alloc (Nat.le_refl _) o).cell (p:=⟨b,o',none⟩) (by have:=cell_lt hv;simpa using this)];exact hv
theorem stays_below {R:Nat→Prop} {W W':World} (h:Below W.heap.size W W'):Stays R W W':=fun b o' v hb hv=>by
 rw [h.cell (p:=⟨b,o',none⟩) (by have:=cell_lt hv;simpa using this)];exact hv
theorem stays_setX {R:Nat→Prop} (W:World) {x:Nat} (j:Nat) (u:Value) (hx:∀ b,R b→b≠x):Stays R W (W.setCell ⟨x,j,none⟩ u):=fun b o v hb hv=>by
 have e:=Below.heap_setCell W ⟨x,j,none⟩ u b (hx b hb)
 rw [← hv];simp only [World.cell?,e]
def RowT (T:TypeId) (n:Nat):Prop:=∃ d,Tryz.prog.underlying T=some d∧(match d with | .struct _ | .array _ _=>true | _=>false)=true∧(Tryz.prog.info? T).map (·.size)=some n
theorem rowEx:RowT 59 6:=⟨_,Tryz.underlying59,rfl,by kernel_rfl⟩
theorem rowSt:RowT 66 7:=⟨_,Tryz.underlying66,rfl,by kernel_rfl⟩
theorem rowTh:RowT 39 4:=⟨_,Tryz.underlying39,rfl,by kernel_rfl⟩
theorem rowPg:RowT 25 3:=⟨_,Tryz.underlying25,rfl,by kernel_rfl⟩
section
variable {ops:Array Oper} {rest:List Oper} {o:Oper} {a:Act} {w:World} {Q:Exit→Act→World→Prop} {T:TypeId} {n:Nat}
theorem ld (hT:RowT T n) (hgd:o.guard=none) {x:Operand} (ho:o.op=.load T x) {g:Nat} (hx:a.eval x=.pointer (some ⟨g,0,none⟩)) {cs:Array Value} (hg:Own w g T cs) (hn:cs.size=n)
 (h:wpList Tryz.prog ops Q rest (a.put o.dst (.agg cs)) w):wpList Tryz.prog ops Q (o::rest) a w:=by
 obtain ⟨d,h1,h2,h3⟩:=hT
 exact wpList_load_row hgd T x ho g hx T cs (0,0) d hg h1 (by cases d <;> first | rfl | cases h2) (by rw [h3,hn]) h
theorem st (hT:RowT T n) (hgd:o.guard=none) {x y:Operand} (ho:o.op=.store T x y) {g:Nat} {cs old:Array Value} (hg:Own w g T old) (hx:a.eval x=.pointer (some ⟨g,0,none⟩)) (hy:a.eval y=.agg cs) (hn:cs.size=n) (hm:old.size=n) (h1:cs.all (·.oneCell')=true)
 (h:wpList Tryz.prog ops Q rest (a.put o.dst undef) (w.setRow g cs)):wpList Tryz.prog ops Q (o::rest) a w:=by
 obtain ⟨d,_,_,h3⟩:=hT
 exact wpList_store_row hgd T x y ho g cs hx hy T old hg (by rw [h3,hn]) (by rw [hm,hn]) h1 h
theorem p_ret (hT:RowT T n) {fn:Func} {p:Tmp} {R:Ending→World→Prop} (hr:fn.results=#[.cell p T]) {g:Nat} {cs:Array Value} (hg:Own w g T cs) (hp:a.tmps.getD p undef=.pointer (some ⟨g,0,none⟩)) (hd:a.defers=[]) (hn:cs.size=n)
 (h:R (.returned (.agg cs)) w):bodyPost Tryz.prog fn R .ret a w:=by
 obtain ⟨d,h1,h2,h3⟩:=hT
 exact bodyPost_ret (results_cell_row hr _ _ g T cs (0,0) d hp hg h1 (by cases d <;> first | rfl | cases h2) (by rw [h3,hn])) hd h
end
def zEx:Array Value:=#[.int .u8 0,.int .u8 0,.int .i64 0,.string ⟨#[]⟩,.slice none 0 0,.int .i64 0]
def zSt:Array Value:=#[.int .u8 0,.string ⟨#[]⟩,.string ⟨#[]⟩,.slice none 0 0,.slice none 0 0,.slice none 0 0,.int .i64 0]
def zDc:Array Value:=#[.string ⟨#[]⟩,.int .i64 0,.int .i64 0]
def zTh:Array Value:=#[.string ⟨#[]⟩,.slice none 0 0,.slice none 0 0,.int .i64 0]
def zPg:Array Value:=#[.slice none 0 0,.slice none 0 0,.slice none 0 0]
open Go.RowKit
set_option linter.unusedVariables false
section
variable {P:Program} {md:Region.Mode} {ops:Array Oper} {Q:Exit→Act→World→Prop} {S:World→Prop} {fuel:Nat} {listed:Array Bool} {a:Act} {w:World}
theorem dr_take (i:Nat) {oi:Oper} (v:Value) (hi:ops[i]? = some oi) (hg:oi.guard=none) (hs:Region.noSelect ops=true) (hf:Region.free md ops listed i=true) (hr:(Region.ready md ops listed).contains i=true)
 (hQ:∀ c a w,Q (.panic c) (a.put oi.dst v) w→Q (.panic c) a w) (hrun:∀ w,S w→(execOp a.eval oi).run P w=.ok (.value v) w) (hS:S w)
 (h:wpAnyH P md ops Q S fuel (listed.setIfInBounds i true) (a.put oi.dst v) w):wpAnyH P md ops Q S (fuel+1) listed a w :=
 wpAnyH_take hi hs hf hr hQ (.inl ⟨by simp [Region.wanted,hg],hrun⟩) hS h
theorem dr_one (i:Nat) {oi:Oper} (hi:ops[i]? = some oi) (hg:oi.guard=none) (hr:Region.ready md ops listed=[i])
 (h:oi.wp P a w (fun a' w'=>S w'∧wpAnyH P md ops Q S fuel (listed.setIfInBounds i true) a' w') Q):wpAnyH P md ops Q S (fuel+1) listed a w:=by
 refine wpAnyH_all hr (by simp) fun j hj=>?_
 obtain rfl:j=i:=by simpa using hj
 unfold wpOp
 simp only [hi,Region.wanted,hg]
 exact .inl h
theorem wp_call {o:Oper} {K:Act→World→Prop} {x:Operand} {args:Array Operand} {ts:Array TypeId} (ho:o.op=.call { callee:=.value x,args:=args,argTypes:=ts }) {f:FuncId} {fst cap:Array Value} (hx:a.eval x=.func (.func f) fst cap) (hE:∀ (args:Array Value) (w:World),(callFunc f args).run P w=.ok (.enter f args) w)
 {vs:Array Value} (hv:fst++args.map a.eval++cap=vs) {R:Ending→World→Prop} (hc:Calls P f vs w R) (hk:∀ e w',R e w'→(match e with | .returned v=>K (a.put o.dst v) w' | .panicked ch=>Q (.panic ch) a w' | .outgrown=>LetsOut Q)):o.wp P a w K Q:=by
 have h1:∀ ty,resolve a.eval { callee:=.value x,args:=args,argTypes:=ts } ty=pure { target:=.fn (.func f) cap,args:=fst++args.map a.eval }:=fun ty=>by
  unfold resolve
  simp only [hx]
  rfl
 have hrun:(execOp a.eval o).run P w=.ok (.enter f vs) w:=by
  unfold execOp
  simp only [ho,h1]
  obtain ⟨us,hus⟩:∃ us,us=args.map a.eval:=⟨_,rfl⟩
  rw [← hus] at hv ⊢
  simp [invoke,go_sem,hE,hv]
 unfold Oper.wp
 rw [hrun,Oper.upon_enter]
 exact hc.mono fun e w' h=>by have:=hk e w' h;cases e <;> exact this
end
end Go.Proofs.YtieeaehabjjaoaaGreatDoor

/- The proof, part 1: texts that belong together, in one. -/
import Derived.Test.YtieeaehabjjaoaaGreatDoorRows
import Derived.WalkKit
import Derived.ProofKit
import Derived.LaidMore
import Derived.OpenShut
import Derived.ShutString
import Derived.Stop.Joined
import Derived.Below
import Derived.WalkSmall
import Derived.SevenTiedAt
import Derived.Handy
import Derived.PlainAid
import Derived.Lib.LaidTab
import Derived.Lib.Hide
import Derived.Lib.Strings
import Derived.Laws.Rows
import Derived.Laws.Tables
import Derived.Lib.ItoaNum
import Derived.MakeChecks
import Derived.WalkLawsBesides
import Derived.Shelf.Small.Strs
import Derived.Shelf.LaysM
import Derived.Shelf.Strconv.Clone
import Derived.Shelf.Strings.Search1
import Derived.Shelf.Strings.Prefix
import Derived.Test.YtieeaehabjjaoaaGreatDoorProg
import Derived.Lib.Bytealg
import Derived.Deep.QuietTactic
import Derived.BigQuiet
import Derived.Deep.RegionWith
import Derived.Deep.DeepMust
import Derived.RegionTactic
import Derived.ChangeAlike
import Derived.WalkSpells
import Derived.Laws.EntriesVeiled
import Derived.Outline
import Derived.RangeFuncNested
import Derived.RangeFuncBound
import Derived.RangeFuncCalls
import Derived.RangeFuncLeaves
import Derived.Shelf.Abstract
import Derived.Shelf.RegionOpen
import Derived.OwnWalkIn
import Derived.TacticsInMore
import Derived.LoopNIn
import Derived.LoopIn
import Derived.Maps.AppendAt
import Derived.Sort.QuietIn
set_option maxRecDepth 100000
set_option maxHeartbeats 20000000
namespace Go.Proofs.YtieeaehabjjaoaaGreatDoor
open Go.ChangeShapes Go.WideShapes Go.ChangeAt Go.WideMaps Go.WideElems Go.RowKit
open Go.ChangeMaps (open_string shut_string)
def wordsL:List (List UInt8):=[[115,104,97,114,101,100],[108,111,99,107],[116,104,114,101,97,100],[108,111,99,97,108],[105,102],[101,108,115,101],[119,104,105,108,101],[112,114,105,110,116],[115,107,105,112],[115,119,97,112]]
def longL:List (List UInt8):=[[61,61],[33,61],[60,61],[62,61],[60,60],[62,62]]
theorem own:ownKnob Tryz.prog.godebug=none:=by kernel_rfl
theorem gWords:Tryz.prog.globalNamed "stile/lexer.languageWords" = some 0:=by kernel_rfl
theorem tWords:(Tryz.prog.globals[0]?).map (·.type)=some 156:=by kernel_rfl
def wordCells:Array Value:=(wordsL.map fun s=>Value.string ⟨s.toArray⟩).toArray
theorem lt_of_at {w:World} {a:Addr} {v:Value} (h:w.cell? a=some v):a.block<w.heap.size:=by
 apply Nat.lt_of_not_le
 intro hn
 simp [World.cell?,Array.getElem?_eq_none hn] at h
theorem cells_of_strs {H:Type} {enc:TypeId × Value→H} {P:Program} {w:World} {base:Nat} {sp:Nat→Bool} {held:Bool} {fuel:Nat} {t e:TypeId} {n:Nat} {cs:List Value} {ss:List (List UInt8)} {p:List MemPlace}
 (ht:P.underlying t=some (.array n e)) (he:P.underlying e=some .string) (hce:P.cellsOf e=1) (hct:P.cellsOf t=n)
 (h:DataW.trod enc P w base sp held fuel t cs=some (.agg (ss.map fun s=>.lit (.string s)),p)):cs=ss.map fun s=>Value.string ⟨s.toArray⟩:=by
 cases fuel with
 | zero=>simp [DataW.trod] at h
 | succ fuel =>
   simp only [DataW.trod,ht,hce,hct,Nat.mul_one] at h
   split at h
   · rename_i hl
     obtain ⟨xs,hm,hx⟩:=Option.map_eq_some_iff.1 h
     have hxs:xs.map (·.1)=ss.map fun s=>(DataW.lit (.string s):DataW H):=by
      have:=congrArg Prod.fst hx
      simpa using this
     have hxl:xs.length=n:=by simpa using Lib.mapM_length hm
     apply List.ext_getElem?
     intro i
     by_cases hi:i<n
     · obtain ⟨b, hb, hf⟩ := Lib.mapM_at hm i i (by simp [hi])
       obtain ⟨z,hc,rfl,_⟩:=DataW.trod_string he hf
       have h1:cs[i]? = some (.string z):=by
        have:=congrArg (·[0]?) hc
        simpa [List.getElem?_take,List.getElem?_drop] using this
       have h2:(xs.map (·.1))[i]? = some (DataW.lit (.string z.data.toList):DataW H):=by simp [hb]
       rw [hxs] at h2
       simp only [List.getElem?_map,Option.map_eq_some_iff,DataW.lit.injEq,Lit.string.injEq] at h2
       obtain ⟨z',hz',e2⟩:=h2
       subst e2
       simp [h1,hz']
     · have hsl : ss.length = n := by
        have:=congrArg List.length hxs
        simp at this
        omega
       rw [List.getElem?_eq_none (by omega),List.getElem?_eq_none (by simp;omega)]
   · cases h
def lev:List Int:=[0,7,7,8,8,8,3,1,2,6,6,4,4,5,5,5,5,9,9]
def sgn:List (List UInt8):=[[],[43],[45],[42],[47],[37],[38],[124],[94],[60,60],[62,62],[61,61],[33,61],[60],[60,61],[62],[62,61],[45],[33]]
theorem gLev:Tryz.prog.globalNamed "stile/words.levels" = some 2:=by kernel_rfl
theorem gSgn:Tryz.prog.globalNamed "stile/words.signs" = some 3:=by kernel_rfl
theorem tLev:(Tryz.prog.globals[2]?).map (·.type)=some 207:=by kernel_rfl
theorem tSgn:(Tryz.prog.globals[3]?).map (·.type)=some 208:=by kernel_rfl
structure Tabs (W:World):Prop where
 size1:2<W.heap.size
 size2:3<W.heap.size
 lev:∀ i,i<19→W.cell? ⟨2,i,none⟩=some (.int .i64 (lev.getD i 0))
 sgn:∀ i,i<19→W.cell? ⟨3,i,none⟩=some (.string ⟨(sgn.getD i []).toArray⟩)
theorem Tabs.below {W W':World} {B:Nat} (T:Tabs W) (hB:W.heap.size≤B) (h:Below B W W'):Tabs W':=by
 have h1:=T.size1
 have h2:=T.size2
 refine ⟨by have:=h.size;omega,by have:=h.size;omega,fun i hi=>?_,fun i hi=>?_⟩
 · rw [h.cell (p:=⟨2,i,none⟩) (by show 2<B;omega)];exact T.lev i hi
 · rw [h.cell (p:=⟨3,i,none⟩) (by show 3<B;omega)];exact T.sgn i hi
theorem laid_var {P:Program} {W:World} {n:String} {d:DataW Unit} {g:Nat} {t:TypeId} (hg:P.globalNamed n=some g) (ht:(P.globals[g]?).map (·.type)=some t):∀ {L:List (String × DataW Unit)} {ps:List MemPlace},DataW.LaidVars P W L ps→(n,d)∈L →
 ∃ cs fuel p,W.var? P n=some cs∧DataW.trod (fun _=>()) P W 0 (fun _=>true) false fuel t cs.toList=some (d,p)
 | (m, e) :: r, ps, ⟨g', t', cs, fuel, p, q, h1, h2, h3, h4, h5, _⟩, hm => by
   rcases List.mem_cons.1 hm with h | h
   · cases h
     obtain rfl:=Option.some.inj (hg.symm.trans h1)
     obtain rfl:=Option.some.inj (ht.symm.trans h2)
     exact ⟨cs,fuel,p,h3,h4⟩
   · exact laid_var hg ht h5 h
theorem tabs_of_vars {W:World} {L:List (String × DataW Unit)} {ps:List MemPlace} (h:DataW.LaidVars Tryz.prog W L ps) (h1:("stile/words.levels",Rows.laid_stile_words_levels)∈L) (h2:("stile/words.signs",Rows.laid_stile_words_signs)∈L):Tabs W:=by
 obtain ⟨c1,f1,p1,v1,d1⟩:=laid_var gLev tLev h h1
 obtain ⟨c2,f2,p2,v2,d2⟩:=laid_var gSgn tSgn h h2
 have e1:=Lib.cells_of_tab (k:=.i64) (zs:=lev) Tryz.underlying207 Tryz.underlying3 (by kernel_rfl) (by kernel_rfl) d1
 have e2:=cells_of_strs (ss:=sgn) Tryz.underlying208 Tryz.underlying9 (by kernel_rfl) (by kernel_rfl) d2
 have i1:=lt_of_at (v:=.int .i64 0) (by rw [World.var?_cell gLev v1 0,← Array.getElem?_toList,e1];rfl)
 have i2:=lt_of_at (v:=.string ⟨#[]⟩) (by rw [World.var?_cell gSgn v2 0,← Array.getElem?_toList,e2];rfl)
 refine ⟨i1,i2,fun i hi=>?_,fun i hi=>?_⟩
 · have := World.var?_cell gLev v1 i
   rw [← Array.getElem?_toList,e1] at this
   rw [this]
   have hl:i<lev.length:=hi
   simp [List.getD,hl]
 · have := World.var?_cell gSgn v2 i
   rw [← Array.getElem?_toList,e2] at this
   rw [this]
   have hl:i<sgn.length:=hi
   simp [List.getD,hl]
open Go.RowKit
set_option linter.unusedVariables false
theorem int_f {a b:Int} (h:a≠b):(a==b)=false:=by simpa using h
theorem int_t {a b:Int} (h:a=b):(a==b)=true:=by simpa using h
theorem ret_bool {a b:Bool} (h:a=b):Ending.returned (.bool a)=.returned (.bool b):=by rw [h]
def letterB (c:Int):Bool:=decide (97≤c∧c≤122∨65≤c∧c≤90∨c=95)
def digitB (c:Int):Bool:=decide (48≤c∧c≤57)
def namedB (c:Int):Bool:=letterB c || digitB c
def blankB (c:Int):Bool:=decide (c=32∨c=9∨c=10∨c=13)
def feedB (c:Int):Bool:=decide (c≠10)
def shortL:List UInt8:=[40,41,123,125,44,59,61,43,45,42,47,37,38,124,94,33,60,62]
def signB (c:Int):Bool:=decide (0≤Lib.indexByte shortL c.toNat.toUInt8)
theorem b_t {p:Prop} [Decidable p] (h:p):decide p=true:=by simpa using h
theorem b_f {p:Prop} [Decidable p] (h:¬ p):decide p=false:=by simpa using h
theorem letter_any (c:Int) (h0:0≤c) (h1:c≤255) (w:World):Calls Tryz.prog 122 #[.int .u8 c] w fun e w'=>e=.returned (.bool (letterB c))∧w=w':=by
 by_cases h:97≤c∧c≤122
 · have e : letterB c = true := b_t (by omega)
   rw [e]
   clear e
   obtain ⟨k0,k1⟩:=h
   go_enter Tryz.func122,Tryz.ntmps122
   go_wp2
   go_ret
   exact ⟨rfl,rfl⟩
 by_cases h:65≤c∧c≤90
 · have e : letterB c = true := b_t (by omega)
   rw [e]
   clear e
   obtain ⟨k0,k1⟩:=h
   go_enter Tryz.func122,Tryz.ntmps122
   go_wp2
   go_ret
   exact ⟨rfl,rfl⟩
 by_cases h:c=95
 · have e : letterB c = true := b_t (by omega)
   rw [e]
   clear e
   subst h
   go_enter Tryz.func122,Tryz.ntmps122
   go_wp2
   go_ret
   exact ⟨rfl,rfl⟩
 by_cases h:c<65
 · have e : letterB c = false := b_f (by omega)
   rw [e]
   clear e
   have q:(c==95)=false:=int_f (by omega)
   go_enter Tryz.func122,Tryz.ntmps122
   go_wp2
   go_ret
   exact ⟨rfl,rfl⟩
 by_cases h:90<c∧c<95
 · have e : letterB c = false := b_f (by omega)
   rw [e]
   clear e
   have q:(c==95)=false:=int_f (by omega)
   have d90:decide (c≤90)=false:=b_f (by omega)
   go_enter Tryz.func122,Tryz.ntmps122
   go_wp2
   go_ret
   exact ⟨rfl,rfl⟩
 by_cases h:c=96
 · have e : letterB c = false := b_f (by omega)
   rw [e]
   clear e
   subst h
   go_enter Tryz.func122,Tryz.ntmps122
   go_wp2
   go_ret
   exact ⟨rfl,rfl⟩
 · have h' : 122 < c := by omega
   have e:letterB c=false:=b_f (by omega)
   have q:(c==95)=false:=int_f (by omega)
   have d90:decide (c≤90)=false:=b_f (by omega)
   have d122:decide (c≤122)=false:=b_f (by omega)
   rw [e]
   clear e
   go_enter Tryz.func122,Tryz.ntmps122
   go_wp2
   go_ret
   exact ⟨rfl,rfl⟩
theorem digit_any (c:Int) (h0:0≤c) (h1:c≤255) (w:World):Calls Tryz.prog 74 #[.int .u8 c] w fun e w'=>e=.returned (.bool (digitB c))∧w=w':=by
 by_cases k0:c<48
 · have e : digitB c = false := b_f (by omega)
   rw [e]
   clear e
   go_enter Tryz.func74,Tryz.ntmps74
   go_wp2
   go_ret
   exact ⟨rfl,rfl⟩
 · by_cases k1 : 57 < c
   · have e : digitB c = false := b_f (by omega)
     have hd:decide (c≤57)=false:=b_f (by omega)
     rw [e]
     clear e
     go_enter Tryz.func74,Tryz.ntmps74
     go_wp2
     go_ret
     exact ⟨rfl,rfl⟩
   · have e : digitB c = true := b_t (by omega)
     rw [e]
     clear e
     go_enter Tryz.func74,Tryz.ntmps74
     go_wp2
     go_ret
     exact ⟨rfl,rfl⟩
theorem named_any (c:Int) (h0:0≤c) (h1:c≤255) (w:World):Calls Tryz.prog 77 #[.int .u8 c] w fun e w'=>e=.returned (.bool (namedB c))∧w=w':=by
 have H1:=Lib.hid (fun w=>letter_any c h0 h1 w)
 have H2:=Lib.hid (fun w=>digit_any c h0 h1 w)
 obtain ⟨a,ha⟩:∃ a,a=letterB c:=⟨_,rfl⟩
 obtain ⟨b,hb⟩:∃ b,b=digitB c:=⟨_,rfl⟩
 have e:namedB c=(a || b):=by rw [ha,hb];rfl
 rw [← ha] at H1
 rw [← hb] at H2
 rw [e]
 clear ha hb e
 cases a
 · go_enter Tryz.func77, Tryz.ntmps77
   go_wp2_with (first | (go_at_call 122;refine (H1.out _).mono ?_;rintro e w' ⟨rfl,rfl⟩) | (go_at_call 74;refine (H2.out _).mono ?_;rintro e w' ⟨rfl,rfl⟩))
   go_ret
   exact ⟨rfl,rfl⟩
 · go_enter Tryz.func77, Tryz.ntmps77
   go_wp2_with (first | (go_at_call 122;refine (H1.out _).mono ?_;rintro e w' ⟨rfl,rfl⟩) | (go_at_call 74;refine (H2.out _).mono ?_;rintro e w' ⟨rfl,rfl⟩))
   go_ret
   exact ⟨rfl,rfl⟩
def spanN (p:Int→Bool):List UInt8→Nat
 | []=>0
 | c::r=>if p (c.toNat:Int)=true then spanN p r+1 else 0
def bytesFrom (s:ByteArray) (n:Nat):List UInt8:=s.data.toList.drop n
theorem from_at (s:ByteArray) (k:Nat) (h:k<s.size):bytesFrom s k=s[k]::bytesFrom s (k+1):=by
 unfold bytesFrom
 rw [List.drop_eq_getElem_cons (by simpa using h)];rfl
theorem from_end (s:ByteArray) (k:Nat) (h:s.size≤k):bytesFrom s k=[]:=List.drop_of_length_le (by simpa using h)
theorem span_named (s:ByteArray) (hs:s.size≤4611686018427387904) (w:World):Calls Tryz.prog 76 #[.string s,.func (.func 77) #[] #[]] w fun e w'=>e=.returned (.int .i64 (spanN namedB s.data.toList))∧w=w':=by
 obtain ⟨R,hR⟩:∃ R,R=spanN namedB s.data.toList:=⟨_,rfl⟩
 rw [← hR]
 have HR:=Lib.hid hR
 clear hR
 go_enter Tryz.func76,Tryz.ntmps76
 go_wp2_with fail
 go_loop [8] (fun i=>∃ k:Nat,k≤s.size∧i=.int .i64 k∧Hid (spanN namedB (bytesFrom s k)+k=R)) (fun i=>s.size-(intOf i).toNat)
 case atStart=>exact ⟨0,Nat.zero_le _,rfl,HR.out.symm⟩
 case round =>
  obtain ⟨k,hk,rfl,hp⟩:=hrel
  by_cases hlt:k<s.size
  · have hx0 := PlainAid.bt_nonneg s k
    have hx1:=PlainAid.bt_le s k
    have hu:((s[k]).toNat:Int)=PlainAid.bt s k:=PlainAid.get_bt s k hlt
    have hfr:=from_at s k hlt
    obtain ⟨c,hc⟩:∃ c,c=PlainAid.bt s k:=⟨_,rfl⟩
    have hbt:∀ h:k<s.size,((s[k]'h).toNat:Int)=c:=fun h=>by rw [hc];exact PlainAid.get_bt s k h
    rw [← hc] at hu hx0 hx1
    clear hc
    have H:=Lib.hid (fun w=>named_any c hx0 hx1 w)
    by_cases hpc:namedB c=true
    · have hn : Hid (spanN namedB (bytesFrom s (k + 1)) + (k + 1) = R) := by
       rw [Hid,← hp.out,hfr];simp only [spanN];rw [hu,if_pos hpc];omega
      rw [hpc] at H
      clear hfr hu hp hpc
      go_wp2_with (go_at_call 77;refine (H.out _).mono ?_;rintro e w' ⟨rfl,rfl⟩)
      go_round
      case rel=>exact ⟨k+1,by omega,by go_num,hn⟩
      case measure=>simp [intOf];omega
    · have hn : Hid (k = R) := by
       rw [Hid,← hp.out,hfr];simp only [spanN];rw [hu,if_neg hpc];omega
      have hpf:namedB c=false:=by simpa using hpc
      rw [hpf] at H
      clear hfr hu hp hpc hpf
      go_wp2_with (go_at_call 77;refine (H.out _).mono ?_;rintro e w' ⟨rfl,rfl⟩)
      go_ret
      rw [← hn.out]
      exact ⟨rfl,rfl⟩
  · have hn : Hid (s.size = R) := by
     rw [Hid,← hp.out,from_end s k (by omega)];simp only [spanN];omega
    clear hp
    go_wp2_with fail
    go_ret
    rw [← hn.out]
    exact ⟨rfl,rfl⟩
open Go.RowKit
set_option linter.unusedVariables false
def levelOf (o:Int):Int:=if 19≤o then 0 else lev.getD o.toNat 0
theorem level_any (o:Int) (h0:0≤o) (h1:o≤255) (w:World) (T:Tabs w) :
 Calls Tryz.prog 135 #[.int .u8 o] w fun e w'=>e=.returned (.int .i64 (levelOf o))∧w=w':=by
 by_cases h:19≤o
 · have hl : levelOf o = 0 := by unfold levelOf; rw [if_pos h]
   rw [hl];clear hl
   go_enter Tryz.func135,Tryz.ntmps135
   go_wp2
   go_ret
   exact ⟨rfl,rfl⟩
 · have hc := T.lev o.toNat (by omega)
   have hl:levelOf o=lev.getD o.toNat 0:=by unfold levelOf;rw [if_neg h]
   rw [hl];clear hl
   obtain ⟨v,hv⟩:∃ v,v=lev.getD o.toNat 0:=⟨_,rfl⟩
   rw [← hv] at hc ⊢
   clear hv T
   go_enter Tryz.func135,Tryz.ntmps135
   go_wp2
   go_ret
   exact ⟨rfl,rfl⟩
theorem two_yes (o:Int) (h0:0≤o) (h1:o≤255) (hl:0<levelOf o) (hh:levelOf o<9) (w:World) (T:Tabs w) :
 Calls Tryz.prog 101 #[.int .u8 o] w fun e w'=>e=.returned (.bool true)∧w=w':=by
 have H:=Lib.hid (level_any o h0 h1 w T)
 obtain ⟨v,hv⟩:∃ v,v=levelOf o:=⟨_,rfl⟩
 rw [← hv] at hl hh H
 clear hv T h0 h1
 go_enter Tryz.func101,Tryz.ntmps101
 go_wp2_with (go_at_call 135;refine (H.out).mono ?_;rintro e w' ⟨rfl,rfl⟩)
 go_ret
 exact ⟨rfl,rfl⟩
theorem two_no (o:Int) (h0:0≤o) (h1:o≤255) (hl:levelOf o=0∨levelOf o=9) (w:World) (T:Tabs w) :
 Calls Tryz.prog 101 #[.int .u8 o] w fun e w'=>e=.returned (.bool false)∧w=w':=by
 have H:=Lib.hid (level_any o h0 h1 w T)
 clear T h0 h1
 rcases hl with hl | hl
 all_goals
  rw [hl] at H
  clear hl
  go_enter Tryz.func101,Tryz.ntmps101
  go_wp2_with (go_at_call 135;refine (H.out).mono ?_;rintro e w' ⟨rfl,rfl⟩)
  go_ret
  exact ⟨rfl,rfl⟩
def signOf (o:Int):List UInt8:=if 19≤o then [] else sgn.getD o.toNat []
theorem rlevel_great (o:Int) (h:19≤o) (w:World):Calls Tryz.prog 171 #[.int .u8 o] w fun e w'=>e=.returned (.int .i64 0)∧Below w.heap.size w w':=by
 go_enter Tryz.func171,Tryz.ntmps171
 go_wp2
 go_ret
 exact ⟨rfl,Below.refl _ _⟩
theorem rshow_great (o:Int) (h:19≤o) (w:World):Calls Tryz.prog 130 #[.int .u8 o] w fun e w'=>e=.returned (.string ⟨#[]⟩)∧Below w.heap.size w w':=by
 go_enter Tryz.func130,Tryz.ntmps130
 go_wp2
 go_ret
 exact ⟨rfl,Below.refl _ _⟩
theorem rlevel_small (o:Int) (h0:0≤o) (h:o<19) (w:World):Calls Tryz.prog 171 #[.int .u8 o] w fun e w'=>e=.returned (.int .i64 (levelOf o))∧Below w.heap.size w w':=by
 have:o=0∨o=1∨o=2∨o=3∨o=4∨o=5∨o=6∨o=7∨o=8∨o=9∨o=10∨o=11∨o=12∨o=13∨o=14∨o=15∨o=16∨o=17∨o=18:=by omega
 clear h0 h
 rcases this with rfl | rfl | rfl | rfl | rfl | rfl | rfl | rfl | rfl | rfl | rfl | rfl | rfl | rfl | rfl | rfl | rfl | rfl | rfl
 all_goals
  go_enter Tryz.func171,Tryz.ntmps171
  go_wp2
  go_ret
  exact ⟨rfl,(Below.refl _ _).alloc (Nat.le_refl _) _⟩
theorem rshow_small (o:Int) (h0:0≤o) (h:o<19) (w:World):Calls Tryz.prog 130 #[.int .u8 o] w fun e w'=>e=.returned (.string ⟨(signOf o).toArray⟩)∧Below w.heap.size w w':=by
 have:o=0∨o=1∨o=2∨o=3∨o=4∨o=5∨o=6∨o=7∨o=8∨o=9∨o=10∨o=11∨o=12∨o=13∨o=14∨o=15∨o=16∨o=17∨o=18:=by omega
 clear h0 h
 rcases this with rfl | rfl | rfl | rfl | rfl | rfl | rfl | rfl | rfl | rfl | rfl | rfl | rfl | rfl | rfl | rfl | rfl | rfl | rfl
 all_goals
  go_enter Tryz.func130,Tryz.ntmps130
  go_wp2
  go_ret
  exact ⟨rfl,(Below.refl _ _).alloc (Nat.le_refl _) _⟩
theorem rlevel_any (o:Int) (h0:0≤o) (w:World):Calls Tryz.prog 171 #[.int .u8 o] w fun e w'=>e=.returned (.int .i64 (levelOf o))∧Below w.heap.size w w':=by
 by_cases h:19≤o
 · have e : levelOf o = 0 := by unfold levelOf; rw [if_pos h]
   rw [e];exact rlevel_great o h w
 · exact rlevel_small o h0 (by omega) w
theorem rshow_any (o:Int) (h0:0≤o) (w:World):Calls Tryz.prog 130 #[.int .u8 o] w fun e w'=>e=.returned (.string ⟨(signOf o).toArray⟩)∧Below w.heap.size w w':=by
 by_cases h:19≤o
 · have e : signOf o = [] := by unfold signOf; rw [if_pos h]
   rw [e];exact rshow_great o h w
 · exact rshow_small o h0 (by omega) w
def sgnAt (k:Nat):List UInt8:=sgn.getD k []
def fndFrom (l:List UInt8):Nat→Nat→Int × Bool
 | 0,_=>(0,false)
 | n+1,k=>if sgnAt k=l then ((k:Int),true) else fndFrom l n (k+1)
def fnd (l:List UInt8):Int × Bool:=fndFrom l 16 1
theorem below_drewN {B:Nat} {a w:World} (h:Below B a w) (n:Nat):Below B a (w.drewN n):=⟨h.os,h.tape,h.output,h.size,h.block⟩
open Go.RowKit
set_option linter.unusedVariables false
theorem show_any (o:Int) (h0:0≤o) (h1:o≤255) (w:World) (T:Tabs w) :
 Calls Tryz.prog 136 #[.int .u8 o] w fun e w'=>e=.returned (.string ⟨(signOf o).toArray⟩)∧w=w':=by
 by_cases h:19≤o
 · have hl : signOf o = [] := by unfold signOf; rw [if_pos h]
   rw [hl];clear hl
   go_enter Tryz.func136,Tryz.ntmps136
   go_wp2
   go_ret
   exact ⟨rfl,rfl⟩
 · have hc := T.sgn o.toNat (by omega)
   have hl:signOf o=sgn.getD o.toNat []:=by unfold signOf;rw [if_neg h]
   rw [hl];clear hl
   obtain ⟨v,hv⟩:∃ v:ByteArray,v=⟨(sgn.getD o.toNat []).toArray⟩:=⟨_,rfl⟩
   rw [← hv] at hc ⊢
   clear hv T
   go_enter Tryz.func136,Tryz.ntmps136
   go_wp2
   go_ret
   exact ⟨rfl,rfl⟩
open Go.RowKit
set_option linter.unusedVariables false
set_option maxRecDepth 100000
def opsCells:Array Value:=#[.nilFunc,.nilFunc,.func (.func 196) #[] #[],.nilFunc,.func (.func 197) #[] #[],.nilFunc,.func (.func 198) #[] #[],.nilFunc,.func (.func 199) #[] #[],.nilFunc,.func (.func 200) #[] #[],.nilFunc,.func (.func 201) #[] #[],.nilFunc,.func (.func 202) #[] #[],.nilFunc,.func (.func 203) #[] #[],.nilFunc,.func (.func 204) #[] #[],.nilFunc,.func (.func 205) #[] #[],.nilFunc,.func (.func 206) #[] #[],.nilFunc,.func (.func 208) #[] #[],.nilFunc,.func (.func 209) #[] #[],.nilFunc,.func (.func 210) #[] #[],.nilFunc,.func (.func 211) #[] #[],.nilFunc,.func (.func 212) #[] #[],.nilFunc,.nilFunc,.func (.func 213) #[] #[],.nilFunc,.func (.func 214) #[] #[]]
def opsV:Value:=.agg opsCells
theorem below_setRow {B:Nat} {a w:World} (h:Below B a w) {g:Nat} (hg:B≤g) (cs:Array Value):Below B a (w.setRow g cs) :=
 h.trans ⟨rfl,rfl,rfl,by simp,fun k hk=>by
  simp only [World.setRow,Array.getElem?_modify]
  rw [if_neg (by omega)]⟩
theorem ops_any (w:World) :
 Calls Tryz.prog 172 #[] w fun e w'=>e=.returned opsV∧Below w.heap.size w w':=by
 go_enter Tryz.func172,Tryz.ntmps172
 go_wp2_with (refine wpList_store_row rfl 205 _ _ rfl w.heap.size opsCells rfl rfl 205 _ (heap_alloc_new w _) (by kernel_rfl) rfl (by kernel_rfl) ?_)
 refine bodyPost_ret (v:=opsV) (results_cell_row rfl _ _ w.heap.size 205 opsCells (0,0) _ rfl (setRow_heap _ _ _ _ _ _ (heap_alloc_new w _)) Tryz.underlying205 rfl (by kernel_rfl)) rfl ?_
 exact ⟨rfl,below_setRow ((Below.refl _ _).alloc (Nat.le_refl _) _) (Nat.le_refl _) _⟩
def bit (b:Bool):Int:=if b then 1 else 0
theorem truth_any (b:Bool) (w:World):Calls Tryz.prog 207 #[.bool b] w fun e w'=>e=.returned (.int .i64 (bit b))∧w=w':=by
 cases b
 · go_enter Tryz.func207, Tryz.ntmps207
   go_wp2
   go_ret
   exact ⟨rfl,rfl⟩
 · go_enter Tryz.func207, Tryz.ntmps207
   go_wp2
   go_ret
   exact ⟨rfl,rfl⟩
theorem minus1_any (a:Int) (w:World):Calls Tryz.prog 213 #[.int .i64 a] w fun e w'=>e=.returned (.int .i64 (wrap64 (-a)))∧w=w':=by
 go_enter Tryz.func213,Tryz.ntmps213
 go_wp2
 go_ret
 exact ⟨rfl,rfl⟩
theorem not1_any (a:Int) (w:World):Calls Tryz.prog 214 #[.int .i64 a] w fun e w'=>e=.returned (.int .i64 (bit (a==0)))∧w=w':=by
 go_enter Tryz.func214,Tryz.ntmps214
 go_wp2_with (go_at_call 207;refine (truth_any _ _).mono ?_;rintro e w' ⟨rfl,rfl⟩)
 go_ret
 exact ⟨rfl,rfl⟩
theorem one17 (a:Int) (w:World) (T:Tabs w):Calls Tryz.prog 134 #[.int .u8 17,.int .i64 a] w fun e w'=>e=.returned (.tuple #[.int .i64 (wrap64 (-a)),.int .i64 0])∧Below w.heap.size w w':=by
 have H2:=Lib.hid (show Calls Tryz.prog 135 #[.int .u8 17] w fun e w'=>e=.returned (.int .i64 9)∧w=w' from level_any 17 (by decide) (by decide) w T)
 have hidx:∀ w,(Instr.index 205 opsV (.int .u8 17)).run Tryz.prog w=.ok (.agg #[.nilFunc,.func (.func 213) #[] #[]]) w:=fun _=>by kernel_rfl
 have hfld:∀ w,(Instr.field 204 (.agg #[.nilFunc,.func (.func 213) #[] #[]]) 1).run Tryz.prog w=.ok (.func (.func 213) #[] #[]) w:=fun _=>by kernel_rfl
 clear T
 go_enter Tryz.func134,Tryz.ntmps134
 go_wp2_with (first | (go_at_call 135;refine (H2.out).mono ?_;rintro e w' ⟨rfl,rfl⟩) | (go_at_call 172;refine (ops_any _).mono ?_;rintro e w1 ⟨rfl,hb⟩) | (go_at_call 213;refine (minus1_any _ _).mono ?_;rintro e w' ⟨rfl,rfl⟩))
 go_ret2
 exact ⟨rfl,hb⟩
theorem one18 (a:Int) (w:World) (T:Tabs w):Calls Tryz.prog 134 #[.int .u8 18,.int .i64 a] w fun e w'=>e=.returned (.tuple #[.int .i64 (bit (a==0)),.int .i64 0])∧Below w.heap.size w w':=by
 have H2:=Lib.hid (show Calls Tryz.prog 135 #[.int .u8 18] w fun e w'=>e=.returned (.int .i64 9)∧w=w' from level_any 18 (by decide) (by decide) w T)
 have hidx:∀ w,(Instr.index 205 opsV (.int .u8 18)).run Tryz.prog w=.ok (.agg #[.nilFunc,.func (.func 214) #[] #[]]) w:=fun _=>by kernel_rfl
 have hfld:∀ w,(Instr.field 204 (.agg #[.nilFunc,.func (.func 214) #[] #[]]) 1).run Tryz.prog w=.ok (.func (.func 214) #[] #[]) w:=fun _=>by kernel_rfl
 clear T
 go_enter Tryz.func134,Tryz.ntmps134
 go_wp2_with (first | (go_at_call 135;refine (H2.out).mono ?_;rintro e w' ⟨rfl,rfl⟩) | (go_at_call 172;refine (ops_any _).mono ?_;rintro e w1 ⟨rfl,hb⟩) | (go_at_call 214;refine (not1_any _ _).mono ?_;rintro e w' ⟨rfl,rfl⟩))
 go_ret2
 exact ⟨rfl,hb⟩
theorem one_no (o a:Int) (h0:0≤o) (h1:o≤255) (hl:o≠17) (hl2:o≠18) (w:World) (T:Tabs w):Calls Tryz.prog 134 #[.int .u8 o,.int .i64 a] w fun e w'=>e=.returned (.tuple #[.int .i64 0,.int .i64 2])∧w=w':=by
 have hl':(levelOf o != 9)=true:=by
  by_cases h:19≤o
  · unfold levelOf;rw [if_pos h];rfl
  · have : o = 0 ∨ o = 1 ∨ o = 2 ∨ o = 3 ∨ o = 4 ∨ o = 5 ∨ o = 6 ∨ o = 7 ∨ o = 8 ∨ o = 9 ∨ o = 10 ∨ o = 11 ∨ o = 12 ∨ o = 13 ∨ o = 14 ∨ o = 15 ∨ o = 16 := by omega
    rcases this with rfl | rfl | rfl | rfl | rfl | rfl | rfl | rfl | rfl | rfl | rfl | rfl | rfl | rfl | rfl | rfl | rfl <;> rfl
 have H2:=Lib.hid (level_any o h0 h1 w T)
 obtain ⟨v,hv⟩:∃ v,v=levelOf o:=⟨_,rfl⟩
 rw [← hv] at hl' H2
 clear hv T h0 h1 hl hl2
 go_enter Tryz.func134,Tryz.ntmps134
 go_wp2_with (go_at_call 135;refine (H2.out).mono ?_;rintro e w' ⟨rfl,rfl⟩)
 go_ret2
 exact ⟨rfl,rfl⟩
def oneB (o:Int):Bool:=o==17 || o==18
theorem oneOp_any (o:Int) (h0:0≤o) (h1:o≤255) (w:World) (T:Tabs w):Calls Tryz.prog 134 #[.int .u8 o,.int .i64 0] w fun e w'=>(∃ x,e=.returned (.tuple #[.int .i64 x,.int .i64 (if oneB o then 0 else 2)]))∧Below w.heap.size w w':=by
 by_cases h17:o=17
 · subst h17;exact (one17 0 w T).mono fun e w' ⟨he,hb⟩=>⟨⟨_,he⟩,hb⟩
 · by_cases h18 : o = 18
   · subst h18;exact (one18 0 w T).mono fun e w' ⟨he,hb⟩=>⟨⟨_,he⟩,hb⟩
   · exact (one_no o 0 h0 h1 h17 h18 w T).mono fun e w' ⟨he,hb⟩=>⟨⟨0,by rw [he];simp [oneB,h17,h18]⟩,by rw [← hb];exact Below.refl _ _⟩
open Go.RowKit
set_option linter.unusedVariables false
theorem var_heap {P:Program} {w:World} {n:String} {g:Nat} {cs:Array Value} (hg:P.globalNamed n=some g) (h:w.var? P n=some cs):∃ t fr,w.heap[g]? = some (.cells cs t fr):=by
 simp only [World.var?,hg,Option.bind_some] at h
 split at h
 · rename_i c e fr he
   simp only [Option.some.injEq] at h
   subst h
   exact ⟨_,_,he⟩
 · cases h
def wordAt (k:Nat):ByteArray:=⟨(wordsL.getD k []).toArray⟩
def longAt (k:Nat):ByteArray:=⟨(longL.getD k []).toArray⟩
def wordB (s:ByteArray):Bool:=(wordAt 0).toList==s.toList || (wordAt 1).toList==s.toList || (wordAt 2).toList==s.toList || (wordAt 3).toList==s.toList || (wordAt 4).toList==s.toList || (wordAt 5).toList==s.toList || (wordAt 6).toList==s.toList || (wordAt 7).toList==s.toList || (wordAt 8).toList==s.toList || (wordAt 9).toList==s.toList
open Go.RowKit
set_option linter.unusedVariables false
def longB (l:List UInt8):Bool:=Lib.hasPrefix l (longAt 0).data.toList || Lib.hasPrefix l (longAt 1).data.toList || Lib.hasPrefix l (longAt 2).data.toList || Lib.hasPrefix l (longAt 3).data.toList || Lib.hasPrefix l (longAt 4).data.toList || Lib.hasPrefix l (longAt 5).data.toList
def firstN (l:List UInt8):Nat:=match l with
 | []=>0
 | c::_=>if signB (c.toNat:Int)=true then 1 else 0
def aheadN (l:List UInt8):Nat:=if longB l=true then 2 else firstN l
open Go.RowKit
set_option linter.unusedVariables false
def digitsV:List UInt8→Int→Option Int
 | [],v=>some v
 | c::r,v=>if digitB (c.toNat:Int)=false then none else if (9223372036854775807-((c.toNat:Int)-48)) / 10<v then none else digitsV r (v*10+((c.toNat:Int)-48))
def valueO (l:List UInt8):Option Int:=match l with
 | []=>none
 | c::r=>if (c.toNat:Int)=48∧r≠[] then none else digitsV (c::r) 0
open Go.RowKit
set_option linter.unusedVariables false
theorem row4 {w:World} {g:Nat} {a b c d:Value} {t:TypeId} (h:w.heap[g]? = some (.cells #[a,b,c,d] t (0,0))) :
 (w.cell? ⟨g,0,none⟩=some a∧w.cell? ⟨g,1,none⟩=some b∧w.cell? ⟨g,2,none⟩=some c∧w.cell? ⟨g,3,none⟩=some d)∧w.frozen? ⟨g,0,none⟩=false∧w.frozen? ⟨g,1,none⟩=false∧w.frozen? ⟨g,2,none⟩=false∧w.frozen? ⟨g,3,none⟩=false :=
 ⟨⟨cell_of_row w g 0 _ _ _ h,cell_of_row w g 1 _ _ _ h,cell_of_row w g 2 _ _ _ h,cell_of_row w g 3 _ _ _ h⟩,frozen_of_row w g 0 _ _ h,frozen_of_row w g 1 _ _ h,frozen_of_row w g 2 _ _ h,frozen_of_row w g 3 _ _ h⟩
open Go.RowKit
set_option linter.unusedVariables false
structure Res where
 kind:Int
 text:ByteArray
 wd:Int
 place:Int
 fa:Int
 fr:Int
def nameX (s:ByteArray) (p:Nat):ByteArray:=(s.extract p s.size).extract 0 (spanN namedB (bytesFrom s p))
def nameR (s:ByteArray) (p:Nat):Res :=
 if wordB (nameX s p)=true then ⟨2,nameX s p,0,p,0,0⟩
 else if 32<(nameX s p).size then ⟨0,⟨#[]⟩,0,0,p+32,2⟩
 else ⟨1,nameX s p,0,p,0,0⟩
open Go.RowKit
set_option linter.unusedVariables false
def signX (s:ByteArray) (p:Nat):ByteArray:=(s.extract p s.size).extract 0 (aheadN (bytesFrom s p))
def signR (s:ByteArray) (p:Nat):Res:=⟨4,signX s p,0,p,0,0⟩
def numX (s:ByteArray) (p:Nat):ByteArray:=(s.extract p s.size).extract 0 (spanN digitB (bytesFrom s p))
def behindB (s:ByteArray) (p:Nat):Bool:=decide (p+spanN digitB (bytesFrom s p)<s.size)&&letterB (PlainAid.bt s (p+spanN digitB (bytesFrom s p)))
def numC (s:ByteArray) (p n:Nat) (X:ByteArray):Option Int→Res
 | none=>⟨0,⟨#[]⟩,0,0,p,3⟩
 | some v=>if behindB s p=true then ⟨0,⟨#[]⟩,0,0,p+(n:Nat),4⟩ else ⟨3,X,v,p,0,0⟩
def numR (s:ByteArray) (p:Nat):Res:=numC s p (spanN digitB (bytesFrom s p)) (numX s p) (valueO (numX s p).data.toList)
open Go.RowKit
set_option linter.unusedVariables false
def nextR (s:ByteArray) (p:Nat):Res :=
 if letterB (PlainAid.bt s p)=true then nameR s p
 else if digitB (PlainAid.bt s p)=true then numR s p
 else if signB (PlainAid.bt s p)=true then signR s p
 else ⟨0,⟨#[]⟩,0,0,p,1⟩
open Go.RowKit
structure Keep (sel:Nat→Obj→Prop) (A B:World):Prop where
 os:B.os=A.os
 tape:B.tape=A.tape
 output:B.output=A.output
 size:A.heap.size≤B.heap.size
 block:∀ k o,A.heap[k]? = some o→sel k o→B.heap[k]? = some o
theorem Keep.refl (sel:Nat→Obj→Prop) (A:World):Keep sel A A:=⟨rfl,rfl,rfl,Nat.le_refl _,fun _ _ h _=>h⟩
theorem Keep.trans {sel:Nat→Obj→Prop} {A B C:World} (h:Keep sel A B) (k:Keep sel B C):Keep sel A C :=
 ⟨k.os.trans h.os,k.tape.trans h.tape,k.output.trans h.output,Nat.le_trans h.size k.size,fun i o hi hs=>k.block i o (h.block i o hi hs) hs⟩
theorem Keep.grown {sel:Nat→Obj→Prop} {A B C:World} {row:Option Nat} (h:Keep sel A B) (hg:B.grownBy C row) (hr:∀ r o,row=some r→B.heap[r]? = some o→¬ sel r o):Keep sel A C :=
 h.trans ⟨hg.os,hg.tape,hg.output,hg.size,fun k o hk hs=>(hg.block k (Array.getElem?_eq_some_iff.1 hk).1 (fun e=>hr k o e.symm hk hs)).trans hk⟩
theorem grownBy_setCellAt (W:World) (p:Addr) (v:Value):W.grownBy (W.setCell p v) (some p.block) :=
 ⟨rfl,rfl,rfl,by simp [World.setCell],fun k _ hk=>Below.heap_setCell _ _ _ k (fun e=>hk (by rw [e]))⟩
theorem Keep.setCell {sel:Nat→Obj→Prop} {A B:World} (h:Keep sel A B) {p:Addr} {o:Obj} (u:Value) (hl:B.heap[p.block]? = some o) (hs:¬ sel p.block o):Keep sel A (B.setCell p u) :=
 h.grown (grownBy_setCellAt B p u) (fun r x e hx=>by cases e;rw [hl] at hx;cases hx;exact hs)
open Go.RowKit
set_option linter.unusedVariables false
def slashes:List UInt8:=[47,47]
def stepN (l:List UInt8):Nat:=if Lib.hasPrefix l slashes=true then spanN feedB l else spanN blankB l
def passF:Nat→List UInt8→Nat
 | 0,_=>0
 | f+1,l=>if stepN l=0 then 0 else stepN l+passF f (l.drop (stepN l))
def passN (l:List UInt8):Nat:=passF l.length l
open Go.RowKit Go.Shelf
set_option linter.unusedVariables false
attribute [local go_sem] Oper.semAt_some
def IsTy (t:TypeId) (o:Obj):Prop:=∃ cs f,o=.cells cs t f
def nx (s:ByteArray) (q:Nat):Nat:=q+(nextR s q).text.size+passN (bytesFrom s (q+(nextR s q).text.size))
open Go.ChangeShapes Go.WideShapes Go.ChangeAt Go.WideMaps Go.WideElems Go.RowKit
set_option linter.unusedVariables false
structure LNm (W:World):Prop where
 words:W.var? Tryz.prog "stile/lexer.languageWords" = some wordCells
 size1:0<W.heap.size
theorem LNm.below {W W':World} {B:Nat} (T:LNm W) (hB:W.heap.size≤B) (h:Below B W W'):LNm W':=by
 have h1:=T.size1
 exact ⟨var?_below h gWords (by omega) T.words,by have:=h.size;omega⟩
theorem lnm_of_vars {W:World} {L:List (String × DataW Unit)} {ps:List MemPlace} (h:DataW.LaidVars Tryz.prog W L ps) (h1:("stile/lexer.languageWords",Rows.laid_stile_lexer_languageWords)∈L):LNm W:=by
 obtain ⟨c1,f1,p1,v1,d1⟩:=laid_var gWords tWords h h1
 have e1:=cells_of_strs (ss:=wordsL) Tryz.underlying156 Tryz.underlying9 (by kernel_rfl) (by kernel_rfl) d1
 have k1:c1=wordCells:=by unfold wordCells;rw [← e1]
 subst k1
 have i1:=lt_of_at (v:=.string ⟨#[115,104,97,114,101,100]⟩) (by rw [World.var?_cell gWords v1 0];rfl)
 exact ⟨v1,by simp only at i1;omega⟩
theorem word_nm (s:ByteArray) (w:World) (T:LNm w):Calls Tryz.prog 75 #[.string s] w fun e w'=>e=.returned (.bool (wordB s))∧w=w':=by
 obtain ⟨tt,fr,hg⟩:=var_heap gWords T.words
 have i0:∀ w,(Instr.index 156 (.agg wordCells) (.int .i64 0)).run Tryz.prog w=.ok (.string (wordAt 0)) w:=fun _=>by kernel_rfl
 have i1:∀ w,(Instr.index 156 (.agg wordCells) (.int .i64 1)).run Tryz.prog w=.ok (.string (wordAt 1)) w:=fun _=>by kernel_rfl
 have i2:∀ w,(Instr.index 156 (.agg wordCells) (.int .i64 2)).run Tryz.prog w=.ok (.string (wordAt 2)) w:=fun _=>by kernel_rfl
 have i3:∀ w,(Instr.index 156 (.agg wordCells) (.int .i64 3)).run Tryz.prog w=.ok (.string (wordAt 3)) w:=fun _=>by kernel_rfl
 have i4:∀ w,(Instr.index 156 (.agg wordCells) (.int .i64 4)).run Tryz.prog w=.ok (.string (wordAt 4)) w:=fun _=>by kernel_rfl
 have i5:∀ w,(Instr.index 156 (.agg wordCells) (.int .i64 5)).run Tryz.prog w=.ok (.string (wordAt 5)) w:=fun _=>by kernel_rfl
 have i6:∀ w,(Instr.index 156 (.agg wordCells) (.int .i64 6)).run Tryz.prog w=.ok (.string (wordAt 6)) w:=fun _=>by kernel_rfl
 have i7:∀ w,(Instr.index 156 (.agg wordCells) (.int .i64 7)).run Tryz.prog w=.ok (.string (wordAt 7)) w:=fun _=>by kernel_rfl
 have i8:∀ w,(Instr.index 156 (.agg wordCells) (.int .i64 8)).run Tryz.prog w=.ok (.string (wordAt 8)) w:=fun _=>by kernel_rfl
 have i9:∀ w,(Instr.index 156 (.agg wordCells) (.int .i64 9)).run Tryz.prog w=.ok (.string (wordAt 9)) w:=fun _=>by kernel_rfl
 clear T
 go_enter Tryz.func75,Tryz.ntmps75
 go_wp2_with (refine wpList_load_row rfl 156 _ rfl 0 rfl tt _ fr _ hg Tryz.underlying156 rfl (by kernel_rfl) ?_)
 go_rounds 11
 all_goals
  go_ret
  exact ⟨ret_bool (by simp [wordB, *]),rfl⟩
end Go.Proofs.YtieeaehabjjaoaaGreatDoor

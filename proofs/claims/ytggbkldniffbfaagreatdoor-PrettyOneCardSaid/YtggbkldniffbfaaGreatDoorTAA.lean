/- The proof, part 1: texts that belong together, in one. -/
import Derived.Test.YtggbkldniffbfaaGreatDoorRows
import Derived.WalkKit
import Derived.ProofKit
import Derived.LaidMore
import Derived.OpenShut
import Derived.ShutString
import Derived.Stop.Joined
import Derived.Below
import Derived.WalkSmall
import Derived.SevenTiedAt
import Derived.Handy
import Derived.PlainAid
import Derived.Lib.LaidTab
import Derived.Lib.Hide
import Derived.Lib.Strings
import Derived.Laws.Rows
import Derived.Laws.Tables
import Derived.Lib.ItoaNum
import Derived.MakeChecks
import Derived.WalkLawsBesides
import Derived.Shelf.Small.Strs
import Derived.Shelf.LaysM
import Derived.Shelf.Strconv.Clone
import Derived.Shelf.Strings.Search1
import Derived.Shelf.Strings.Prefix
import Derived.Test.YtggbkldniffbfaaGreatDoorProg
import Derived.Deep.QuietTactic
import Derived.BigQuiet
set_option maxRecDepth 100000
set_option maxHeartbeats 20000000
namespace Go.Proofs.YtggbkldniffbfaaGreatDoor
open Go.ChangeShapes Go.WideShapes Go.ChangeAt Go.WideMaps Go.WideElems Go.RowKit
open Go.ChangeMaps (open_string shut_string)
def wordsL:List (List UInt8):=[[115,104,97,114,101,100],[108,111,99,107],[116,104,114,101,97,100],[108,111,99,97,108],[105,102],[101,108,115,101],[119,104,105,108,101],[112,114,105,110,116],[115,107,105,112],[115,119,97,112]]
def longL:List (List UInt8):=[[61,61],[33,61],[60,61],[62,61],[60,60],[62,62]]
theorem own:ownKnob Tryz.prog.godebug=none:=by kernel_rfl
theorem gWords:Tryz.prog.globalNamed "stile/lexer.languageWords" = some 0:=by kernel_rfl
theorem gLong:Tryz.prog.globalNamed "stile/lexer.longSigns" = some 6:=by kernel_rfl
theorem tWords:(Tryz.prog.globals[0]?).map (·.type)=some 161:=by kernel_rfl
theorem tLong:(Tryz.prog.globals[6]?).map (·.type)=some 229:=by kernel_rfl
def wordCells:Array Value:=(wordsL.map fun s=>Value.string ⟨s.toArray⟩).toArray
def longCells:Array Value:=(longL.map fun s=>Value.string ⟨s.toArray⟩).toArray
structure LTabs (W:World):Prop where
 words:W.var? Tryz.prog "stile/lexer.languageWords" = some wordCells
 long:W.var? Tryz.prog "stile/lexer.longSigns" = some longCells
 size1:0<W.heap.size
 size2:6<W.heap.size
theorem lt_of_at {w:World} {a:Addr} {v:Value} (h:w.cell? a=some v):a.block<w.heap.size:=by
 apply Nat.lt_of_not_le
 intro hn
 simp [World.cell?,Array.getElem?_eq_none hn] at h
theorem cells_of_strs {H:Type} {enc:TypeId × Value→H} {P:Program} {w:World} {base:Nat} {sp:Nat→Bool} {held:Bool} {fuel:Nat} {t e:TypeId} {n:Nat} {cs:List Value} {ss:List (List UInt8)} {p:List MemPlace}
 (ht:P.underlying t=some (.array n e)) (he:P.underlying e=some .string) (hce:P.cellsOf e=1) (hct:P.cellsOf t=n)
 (h:DataW.trod enc P w base sp held fuel t cs=some (.agg (ss.map fun s=>.lit (.string s)),p)):cs=ss.map fun s=>Value.string ⟨s.toArray⟩:=by
 cases fuel with
 | zero=>simp [DataW.trod] at h
 | succ fuel =>
   simp only [DataW.trod,ht,hce,hct,Nat.mul_one] at h
   split at h
   · rename_i hl
     obtain ⟨xs,hm,hx⟩:=Option.map_eq_some_iff.1 h
     have hxs:xs.map (·.1)=ss.map fun s=>(DataW.lit (.string s):DataW H):=by
      have:=congrArg Prod.fst hx
      simpa using this
     have hxl:xs.length=n:=by simpa using Lib.mapM_length hm
     apply List.ext_getElem?
     intro i
     by_cases hi:i<n
     · obtain ⟨b, hb, hf⟩ := Lib.mapM_at hm i i (by simp [hi])
       obtain ⟨z,hc,rfl,_⟩:=DataW.trod_string he hf
       have h1:cs[i]? = some (.string z):=by
        have:=congrArg (·[0]?) hc
        simpa [List.getElem?_take,List.getElem?_drop] using this
       have h2:(xs.map (·.1))[i]? = some (DataW.lit (.string z.data.toList):DataW H):=by simp [hb]
       rw [hxs] at h2
       simp only [List.getElem?_map,Option.map_eq_some_iff,DataW.lit.injEq,Lit.string.injEq] at h2
       obtain ⟨z',hz',e2⟩:=h2
       subst e2
       simp [h1,hz']
     · have hsl : ss.length = n := by
        have:=congrArg List.length hxs
        simp at this
        omega
       rw [List.getElem?_eq_none (by omega),List.getElem?_eq_none (by simp;omega)]
   · cases h
theorem LTabs.below {W W':World} {B:Nat} (T:LTabs W) (hB:W.heap.size≤B) (h:Below B W W'):LTabs W':=by
 have h1:=T.size1
 have h2:=T.size2
 exact ⟨var?_below h gWords (by omega) T.words,var?_below h gLong (by omega) T.long,by have:=h.size;omega,by have:=h.size;omega⟩
def lev:List Int:=[0,7,7,8,8,8,3,1,2,6,6,4,4,5,5,5,5,9,9]
def sgn:List (List UInt8):=[[],[43],[45],[42],[47],[37],[38],[124],[94],[60,60],[62,62],[61,61],[33,61],[60],[60,61],[62],[62,61],[45],[33]]
theorem gLev:Tryz.prog.globalNamed "stile/words.levels" = some 2:=by kernel_rfl
theorem gSgn:Tryz.prog.globalNamed "stile/words.signs" = some 3:=by kernel_rfl
theorem tLev:(Tryz.prog.globals[2]?).map (·.type)=some 196:=by kernel_rfl
theorem tSgn:(Tryz.prog.globals[3]?).map (·.type)=some 197:=by kernel_rfl
structure Tabs (W:World):Prop where
 size1:2<W.heap.size
 size2:3<W.heap.size
 lev:∀ i,i<19→W.cell? ⟨2,i,none⟩=some (.int .i64 (lev.getD i 0))
 sgn:∀ i,i<19→W.cell? ⟨3,i,none⟩=some (.string ⟨(sgn.getD i []).toArray⟩)
theorem Tabs.below {W W':World} {B:Nat} (T:Tabs W) (hB:W.heap.size≤B) (h:Below B W W'):Tabs W':=by
 have h1:=T.size1
 have h2:=T.size2
 refine ⟨by have:=h.size;omega,by have:=h.size;omega,fun i hi=>?_,fun i hi=>?_⟩
 · rw [h.cell (p:=⟨2,i,none⟩) (by show 2<B;omega)];exact T.lev i hi
 · rw [h.cell (p:=⟨3,i,none⟩) (by show 3<B;omega)];exact T.sgn i hi
theorem laid_var {P:Program} {W:World} {n:String} {d:DataW Unit} {g:Nat} {t:TypeId} (hg:P.globalNamed n=some g) (ht:(P.globals[g]?).map (·.type)=some t):∀ {L:List (String × DataW Unit)} {ps:List MemPlace},DataW.LaidVars P W L ps→(n,d)∈L →
 ∃ cs fuel p,W.var? P n=some cs∧DataW.trod (fun _=>()) P W 0 (fun _=>true) false fuel t cs.toList=some (d,p)
 | (m, e) :: r, ps, ⟨g', t', cs, fuel, p, q, h1, h2, h3, h4, h5, _⟩, hm => by
   rcases List.mem_cons.1 hm with h | h
   · cases h
     obtain rfl:=Option.some.inj (hg.symm.trans h1)
     obtain rfl:=Option.some.inj (ht.symm.trans h2)
     exact ⟨cs,fuel,p,h3,h4⟩
   · exact laid_var hg ht h5 h
theorem tabs_of_vars {W:World} {L:List (String × DataW Unit)} {ps:List MemPlace} (h:DataW.LaidVars Tryz.prog W L ps) (h1:("stile/words.levels",Rows.laid_stile_words_levels)∈L) (h2:("stile/words.signs",Rows.laid_stile_words_signs)∈L):Tabs W:=by
 obtain ⟨c1,f1,p1,v1,d1⟩:=laid_var gLev tLev h h1
 obtain ⟨c2,f2,p2,v2,d2⟩:=laid_var gSgn tSgn h h2
 have e1:=Lib.cells_of_tab (k:=.i64) (zs:=lev) Tryz.underlying196 Tryz.underlying3 (by kernel_rfl) (by kernel_rfl) d1
 have e2:=cells_of_strs (ss:=sgn) Tryz.underlying197 Tryz.underlying9 (by kernel_rfl) (by kernel_rfl) d2
 have i1:=lt_of_at (v:=.int .i64 0) (by rw [World.var?_cell gLev v1 0,← Array.getElem?_toList,e1];rfl)
 have i2:=lt_of_at (v:=.string ⟨#[]⟩) (by rw [World.var?_cell gSgn v2 0,← Array.getElem?_toList,e2];rfl)
 refine ⟨i1,i2,fun i hi=>?_,fun i hi=>?_⟩
 · have := World.var?_cell gLev v1 i
   rw [← Array.getElem?_toList,e1] at this
   rw [this]
   have hl:i<lev.length:=hi
   simp [List.getD,hl]
 · have := World.var?_cell gSgn v2 i
   rw [← Array.getElem?_toList,e2] at this
   rw [this]
   have hl:i<sgn.length:=hi
   simp [List.getD,hl]
theorem ltabs_of_vars {W:World} {L:List (String × DataW Unit)} {ps:List MemPlace} (h:DataW.LaidVars Tryz.prog W L ps) (h1:("stile/lexer.languageWords",Rows.laid_stile_lexer_languageWords)∈L) (h2:("stile/lexer.longSigns",Rows.laid_stile_lexer_longSigns)∈L):LTabs W:=by
 obtain ⟨c1,f1,p1,v1,d1⟩:=laid_var gWords tWords h h1
 obtain ⟨c2,f2,p2,v2,d2⟩:=laid_var gLong tLong h h2
 have e1:=cells_of_strs (ss:=wordsL) Tryz.underlying161 Tryz.underlying9 (by kernel_rfl) (by kernel_rfl) d1
 have e2:=cells_of_strs (ss:=longL) Tryz.underlying229 Tryz.underlying9 (by kernel_rfl) (by kernel_rfl) d2
 have k1:c1=wordCells:=by unfold wordCells;rw [← e1]
 have k2:c2=longCells:=by unfold longCells;rw [← e2]
 subst k1 k2
 have i1:=lt_of_at (v:=.string ⟨#[115,104,97,114,101,100]⟩) (by rw [World.var?_cell gWords v1 0];rfl)
 have i2:=lt_of_at (v:=.string ⟨#[61,61]⟩) (by rw [World.var?_cell gLong v2 0];rfl)
 exact ⟨v1,v2,by simp only at i1 i2;omega,by simp only at i1 i2;omega⟩
theorem law_post {H:Type} {enc:TypeId × Value→H} {P:Program} {f:Func} {s:ChangeSpec} {W W':World} {args:Array Value} {tb:TypeId} {ds:List (DataW H)}
 (hW:DataW.Whole enc P f.params.toList s.vars false W args.toList ds [] []) (hres:f.resultTypes=#[tb]) (hb:P.underlying tb=some .bool)
 (hvars:s.vars=[]) (hfn:(s.fn H (ds++[])).results=[.lit (.bool true)]) (hfa:(s.fn H (ds++[])).args=ds) (hfv:(s.fn H (ds++[])).vars=[])
 (hargs:∀ sp:Nat→Bool,DataW.TrodAll enc P W' 0 sp true f.params.toList args.toList ds [])
 (hk:Below W.heap.size W W'):s.post enc P f false true false false W args (.bool true) W':=by
 have hr:∀ (b:Nat) (sp:Nat→Bool) (hd:Bool),DataW.TrodAll enc P W' b sp hd f.resultTypes.toList ((Value.bool true).resultList f.resultTypes.size) (s.fn H (ds++[])).results []:=fun b sp hd=>by
  rw [hfn,hres]
  exact trodAll_mk1 (shut_bool hb _)
 have ha:∀ sp:Nat→Bool,DataW.TrodAll enc P W' 0 sp true f.params.toList args.toList (s.fn H (ds++[])).args []:=fun sp=>by
  rw [hfa];exact hargs sp
 have hv:∀ sp:Nat→Bool,DataW.TrodVars enc P W' sp s.vars (s.fn H (ds++[])).vars []:=fun sp=>by
  rw [hvars,hfv];rfl
 refine ⟨ds,[],[],[],[],[],hW,hr _ _ _,ha _,hv _,World.keptBut_mono (fun p hp=>by simp at hp) (hk.frame (· ∈ ([]:List MemPlace))),fun _=>?_⟩
 refine ⟨?_,_,_,([]++[])++[],⟨[]++[],[],trodAll_append (ha _) (hr _ _ _),hv _,rfl,?_,?_⟩,?_⟩
 · exact ok_one hres rfl (okWide_bool_mk hb _)
 · intro b off hp;simp at hp
 · intro hx;simp at hx
 · intro p hp;simp at hp
end Go.Proofs.YtggbkldniffbfaaGreatDoor
namespace Go.Proofs
open Go.Shelf
def Tryz.lays137_ren:Go.Shelf.Ren:=⟨fun | 137=>178 | 217=>186 | 266=>189 | n=>n,fun | 9=>9 | 5=>5 | 3=>3 | n=>n,fun | n=>n⟩
theorem Tryz.lays137:Go.Proofs.Lays.n137 Tryz.prog Tryz.lays137_ren:={
 mixed:=by kernel_rfl
 f137:=Tryz.func178.trans (congrArg some (by kernel_rfl))
 f217:=Tryz.func186.trans (congrArg some (by kernel_rfl))
 f266:=Tryz.func189.trans (congrArg some (by kernel_rfl))
 t3:=Tryz.underlying3
 a3:=Tryz.isAgg3
 z3:=Tryz.sizeOf3
 v3:=Tryz.zeroValue3
 t5:=Tryz.underlying5
 a5:=Tryz.isAgg5
 z5:=Tryz.sizeOf5
 v5:=Tryz.zeroValue5
 t9:=Tryz.underlying9
 a9:=Tryz.isAgg9
 z9:=Tryz.sizeOf9
 v9:=Tryz.zeroValue9 }
open Go.RowKit in
theorem Tryz.strings_IndexByte (s:ByteArray) (c:Int) (w:World) :
 Calls Tryz.prog 178 #[.string s,.int .u8 c] w fun e w'=>e=.returned (.int .i64 (Lib.indexByte s.data.toList c.toNat.toUInt8))∧w'=w:=Any.strings_IndexByte Tryz.lays137 s c w
def Tryz.laysM316_ren:Go.Shelf.Ren:=⟨fun | 316=>135 | n=>n,fun | 9=>9 | 3=>3 | 4=>4 | 37=>90 | 0=>0 | 127=>136 | 5=>5 | n=>n,fun | n=>n⟩
theorem Tryz.laysM316:Go.Proofs.LaysM.n316 Tryz.prog Tryz.laysM316_ren:={
 mixed:=by kernel_rfl
 f316:=Tryz.func135.trans (congrArg some (by kernel_rfl))
 t0:=Tryz.underlying0
 a0:=Tryz.isAgg0
 z0:=Tryz.sizeOf0
 v0:=Tryz.zeroValue0
 t3:=Tryz.underlying3
 a3:=Tryz.isAgg3
 z3:=Tryz.sizeOf3
 v3:=Tryz.zeroValue3
 t4:=Tryz.underlying4
 a4:=Tryz.isAgg4
 z4:=Tryz.sizeOf4
 v4:=Tryz.zeroValue4
 t9:=Tryz.underlying9
 a9:=Tryz.isAgg9
 z9:=Tryz.sizeOf9
 v9:=Tryz.zeroValue9
 t37:=Tryz.underlying90
 a37:=Tryz.isAgg90
 z37:=Tryz.sizeOf90
 v37:=Tryz.zeroValue90
 t127:=Tryz.underlying136
 a127:=Tryz.isAgg136
 z127:=Tryz.sizeOf136
 v127:=Tryz.zeroValue136
 t5:=Tryz.underlying5
 a5:=Tryz.isAgg5
 z5:=Tryz.sizeOf5
 v5:=Tryz.zeroValue5
 i0:=by kernel_rfl
 i3:=by kernel_rfl
 i4:=by kernel_rfl
 i5:=by kernel_rfl
 i9:=by kernel_rfl
 i37:=by kernel_rfl
 i127:=by kernel_rfl }
open Go.RowKit in
theorem Tryz.stringslite_Clone (s:ByteArray) (w:World) (hlim:s.size≤281474976710656) :
 Calls Tryz.prog 135 #[.string s] w fun e w'=>e=.returned (.string s)∧Below w.heap.size w w':=Any.stringslite_Clone Tryz.laysM316 s w hlim
def Tryz.lays99_ren:Go.Shelf.Ren:=⟨fun | 99=>117 | 206=>142 | n=>n,fun | 9=>9 | 4=>4 | 3=>3 | n=>n,fun | n=>n⟩
theorem Tryz.lays99:Go.Proofs.Lays.n99 Tryz.prog Tryz.lays99_ren:={
 mixed:=by kernel_rfl
 f99:=Tryz.func117.trans (congrArg some (by kernel_rfl))
 f206:=Tryz.func142.trans (congrArg some (by kernel_rfl))
 t3:=Tryz.underlying3
 a3:=Tryz.isAgg3
 z3:=Tryz.sizeOf3
 v3:=Tryz.zeroValue3
 t4:=Tryz.underlying4
 a4:=Tryz.isAgg4
 z4:=Tryz.sizeOf4
 v4:=Tryz.zeroValue4
 t9:=Tryz.underlying9
 a9:=Tryz.isAgg9
 z9:=Tryz.sizeOf9
 v9:=Tryz.zeroValue9 }
open Go.RowKit Go.Lib in
theorem Tryz.strings_HasPrefix (s p:ByteArray) (w:World) :
 Calls Tryz.prog 117 #[.string s,.string p] w fun e w'=>e=.returned (.bool (Lib.hasPrefix s.data.toList p.data.toList))∧w'=w:=Any.strings_HasPrefix Tryz.lays99 s p w
end Go.Proofs
namespace Go.Proofs.YtggbkldniffbfaaGreatDoor
open Go.RowKit
set_option linter.unusedVariables false
theorem int_f {a b:Int} (h:a≠b):(a==b)=false:=by simpa using h
theorem bytes_t {v s:ByteArray} (h:v.data.toList=s.data.toList):(v.toList==s.toList)=true:=by
 rw [Lib.toList_data,Lib.toList_data,h];simp
theorem bytes_f {v s:ByteArray} (h:¬ v.data.toList=s.data.toList):(v.toList==s.toList)=false:=by
 rw [Lib.toList_data,Lib.toList_data];simpa using h
theorem ret_bool {a b:Bool} (h:a=b):Ending.returned (.bool a)=.returned (.bool b):=by rw [h]
def letterB (c:Int):Bool:=decide (97≤c∧c≤122∨65≤c∧c≤90∨c=95)
def digitB (c:Int):Bool:=decide (48≤c∧c≤57)
def namedB (c:Int):Bool:=letterB c || digitB c
def blankB (c:Int):Bool:=decide (c=32∨c=9∨c=10∨c=13)
def feedB (c:Int):Bool:=decide (c≠10)
def shortL:List UInt8:=[40,41,123,125,44,59,61,43,45,42,47,37,38,124,94,33,60,62]
def signB (c:Int):Bool:=decide (0≤Lib.indexByte shortL c.toNat.toUInt8)
theorem b_t {p:Prop} [Decidable p] (h:p):decide p=true:=by simpa using h
theorem b_f {p:Prop} [Decidable p] (h:¬ p):decide p=false:=by simpa using h
theorem letter_any (c:Int) (h0:0≤c) (h1:c≤255) (w:World):Calls Tryz.prog 112 #[.int .u8 c] w fun e w'=>e=.returned (.bool (letterB c))∧w=w':=by
 by_cases h:97≤c∧c≤122
 · have e : letterB c = true := b_t (by omega)
   rw [e]
   clear e
   obtain ⟨k0,k1⟩:=h
   go_enter Tryz.func112,Tryz.ntmps112
   go_wp2
   go_ret
   exact ⟨rfl,rfl⟩
 by_cases h:65≤c∧c≤90
 · have e : letterB c = true := b_t (by omega)
   rw [e]
   clear e
   obtain ⟨k0,k1⟩:=h
   go_enter Tryz.func112,Tryz.ntmps112
   go_wp2
   go_ret
   exact ⟨rfl,rfl⟩
 by_cases h:c=95
 · have e : letterB c = true := b_t (by omega)
   rw [e]
   clear e
   subst h
   go_enter Tryz.func112,Tryz.ntmps112
   go_wp2
   go_ret
   exact ⟨rfl,rfl⟩
 by_cases h:c<65
 · have e : letterB c = false := b_f (by omega)
   rw [e]
   clear e
   have q:(c==95)=false:=int_f (by omega)
   go_enter Tryz.func112,Tryz.ntmps112
   go_wp2
   go_ret
   exact ⟨rfl,rfl⟩
 by_cases h:90<c∧c<95
 · have e : letterB c = false := b_f (by omega)
   rw [e]
   clear e
   have q:(c==95)=false:=int_f (by omega)
   have d90:decide (c≤90)=false:=b_f (by omega)
   go_enter Tryz.func112,Tryz.ntmps112
   go_wp2
   go_ret
   exact ⟨rfl,rfl⟩
 by_cases h:c=96
 · have e : letterB c = false := b_f (by omega)
   rw [e]
   clear e
   subst h
   go_enter Tryz.func112,Tryz.ntmps112
   go_wp2
   go_ret
   exact ⟨rfl,rfl⟩
 · have h' : 122 < c := by omega
   have e:letterB c=false:=b_f (by omega)
   have q:(c==95)=false:=int_f (by omega)
   have d90:decide (c≤90)=false:=b_f (by omega)
   have d122:decide (c≤122)=false:=b_f (by omega)
   rw [e]
   clear e
   go_enter Tryz.func112,Tryz.ntmps112
   go_wp2
   go_ret
   exact ⟨rfl,rfl⟩
theorem digit_any (c:Int) (h0:0≤c) (h1:c≤255) (w:World):Calls Tryz.prog 72 #[.int .u8 c] w fun e w'=>e=.returned (.bool (digitB c))∧w=w':=by
 by_cases k0:c<48
 · have e : digitB c = false := b_f (by omega)
   rw [e]
   clear e
   go_enter Tryz.func72,Tryz.ntmps72
   go_wp2
   go_ret
   exact ⟨rfl,rfl⟩
 · by_cases k1 : 57 < c
   · have e : digitB c = false := b_f (by omega)
     have hd:decide (c≤57)=false:=b_f (by omega)
     rw [e]
     clear e
     go_enter Tryz.func72,Tryz.ntmps72
     go_wp2
     go_ret
     exact ⟨rfl,rfl⟩
   · have e : digitB c = true := b_t (by omega)
     rw [e]
     clear e
     go_enter Tryz.func72,Tryz.ntmps72
     go_wp2
     go_ret
     exact ⟨rfl,rfl⟩
theorem named_any (c:Int) (h0:0≤c) (h1:c≤255) (w:World):Calls Tryz.prog 75 #[.int .u8 c] w fun e w'=>e=.returned (.bool (namedB c))∧w=w':=by
 have H1:=Lib.hid (fun w=>letter_any c h0 h1 w)
 have H2:=Lib.hid (fun w=>digit_any c h0 h1 w)
 obtain ⟨a,ha⟩:∃ a,a=letterB c:=⟨_,rfl⟩
 obtain ⟨b,hb⟩:∃ b,b=digitB c:=⟨_,rfl⟩
 have e:namedB c=(a || b):=by rw [ha,hb];rfl
 rw [← ha] at H1
 rw [← hb] at H2
 rw [e]
 clear ha hb e
 cases a
 · go_enter Tryz.func75, Tryz.ntmps75
   go_wp2_with (first | (go_at_call 112;refine (H1.out _).mono ?_;rintro e w' ⟨rfl,rfl⟩) | (go_at_call 72;refine (H2.out _).mono ?_;rintro e w' ⟨rfl,rfl⟩))
   go_ret
   exact ⟨rfl,rfl⟩
 · go_enter Tryz.func75, Tryz.ntmps75
   go_wp2_with (first | (go_at_call 112;refine (H1.out _).mono ?_;rintro e w' ⟨rfl,rfl⟩) | (go_at_call 72;refine (H2.out _).mono ?_;rintro e w' ⟨rfl,rfl⟩))
   go_ret
   exact ⟨rfl,rfl⟩
theorem blank_any (c:Int) (h0:0≤c) (h1:c≤255) (w:World):Calls Tryz.prog 148 #[.int .u8 c] w fun e w'=>e=.returned (.bool (blankB c))∧w=w':=by
 by_cases k32:c=32
 · subst k32
   have e:blankB 32=true:=b_t (by omega)
   rw [e]
   clear e
   go_enter Tryz.func148,Tryz.ntmps148
   go_wp2
   go_ret
   exact ⟨rfl,rfl⟩
 by_cases k9:c=9
 · subst k9
   have e:blankB 9=true:=b_t (by omega)
   rw [e]
   clear e
   go_enter Tryz.func148,Tryz.ntmps148
   go_wp2
   go_ret
   exact ⟨rfl,rfl⟩
 by_cases k10:c=10
 · subst k10
   have e:blankB 10=true:=b_t (by omega)
   rw [e]
   clear e
   go_enter Tryz.func148,Tryz.ntmps148
   go_wp2
   go_ret
   exact ⟨rfl,rfl⟩
 by_cases k13:c=13
 · subst k13
   have e:blankB 13=true:=b_t (by omega)
   rw [e]
   clear e
   go_enter Tryz.func148,Tryz.ntmps148
   go_wp2
   go_ret
   exact ⟨rfl,rfl⟩
 · have e : blankB c = false := b_f (by omega)
   have q1:=int_f k32
   have q2:=int_f k9
   have q3:=int_f k10
   have q4:=int_f k13
   rw [e]
   clear e k32 k9 k10 k13
   go_enter Tryz.func148,Tryz.ntmps148
   go_wp2
   go_ret
   exact ⟨rfl,rfl⟩
theorem feed_any (c:Int) (h0:0≤c) (h1:c≤255) (w:World):Calls Tryz.prog 149 #[.int .u8 c] w fun e w'=>e=.returned (.bool (feedB c))∧w=w':=by
 by_cases k:c=10
 · subst k
   have e:feedB 10=false:=b_f (by omega)
   rw [e]
   clear e
   go_enter Tryz.func149,Tryz.ntmps149
   go_wp2
   go_ret
   exact ⟨rfl,rfl⟩
 · have e : feedB c = true := b_t k
   have q:(c != 10)=true:=by simpa using k
   rw [e]
   clear e k
   go_enter Tryz.func149,Tryz.ntmps149
   go_wp2
   go_ret
   exact ⟨rfl,rfl⟩
theorem sign_any (c:Int) (h0:0≤c) (h1:c≤255) (w:World):Calls Tryz.prog 146 #[.int .u8 c] w fun e w'=>e=.returned (.bool (signB c))∧w=w':=by
 have H:=Lib.hid (show ∀ w:World,Calls Tryz.prog 178 #[.string ⟨#[40,41,123,125,44,59,61,43,45,42,47,37,38,124,94,33,60,62]⟩,.int .u8 c] w fun e w'=>e=.returned (.int .i64 (Lib.indexByte shortL c.toNat.toUInt8))∧w'=w from fun w=>Go.Proofs.Tryz.strings_IndexByte _ c w)
 unfold signB
 obtain ⟨v,hv⟩:∃ v,v=Lib.indexByte shortL c.toNat.toUInt8:=⟨_,rfl⟩
 rw [← hv] at H ⊢
 clear hv h0 h1
 go_enter Tryz.func146,Tryz.ntmps146
 go_wp2_with (go_at_call 178;refine (H.out _).mono ?_;rintro e w' ⟨rfl,rfl⟩)
 go_ret
 exact ⟨rfl,rfl⟩
def spanN (p:Int→Bool):List UInt8→Nat
 | []=>0
 | c::r=>if p (c.toNat:Int)=true then spanN p r+1 else 0
theorem spanN_le (p:Int→Bool):∀ l:List UInt8,spanN p l≤l.length
 | []=>Nat.le_refl _
 | c :: r => by
   simp only [spanN,List.length_cons]
   have:=spanN_le p r
   split <;> omega
def bytesFrom (s:ByteArray) (n:Nat):List UInt8:=s.data.toList.drop n
theorem from_at (s:ByteArray) (k:Nat) (h:k<s.size):bytesFrom s k=s[k]::bytesFrom s (k+1):=by
 unfold bytesFrom
 rw [List.drop_eq_getElem_cons (by simpa using h)];rfl
theorem from_end (s:ByteArray) (k:Nat) (h:s.size≤k):bytesFrom s k=[]:=List.drop_of_length_le (by simpa using h)
theorem from_nought (s:ByteArray):bytesFrom s 0=s.data.toList:=rfl
theorem span_digit (s:ByteArray) (hs:s.size≤4611686018427387904) (w:World):Calls Tryz.prog 74 #[.string s,.func (.func 72) #[] #[]] w fun e w'=>e=.returned (.int .i64 (spanN digitB s.data.toList))∧w=w':=by
 obtain ⟨R,hR⟩:∃ R,R=spanN digitB s.data.toList:=⟨_,rfl⟩
 rw [← hR]
 have HR:=Lib.hid hR
 clear hR
 go_enter Tryz.func74,Tryz.ntmps74
 go_wp2_with fail
 go_loop [8] (fun i=>∃ k:Nat,k≤s.size∧i=.int .i64 k∧Hid (spanN digitB (bytesFrom s k)+k=R)) (fun i=>s.size-(intOf i).toNat)
 case atStart=>exact ⟨0,Nat.zero_le _,rfl,HR.out.symm⟩
 case round =>
  obtain ⟨k,hk,rfl,hp⟩:=hrel
  by_cases hlt:k<s.size
  · have hx0 := PlainAid.bt_nonneg s k
    have hx1:=PlainAid.bt_le s k
    have hu:((s[k]).toNat:Int)=PlainAid.bt s k:=PlainAid.get_bt s k hlt
    have hfr:=from_at s k hlt
    obtain ⟨c,hc⟩:∃ c,c=PlainAid.bt s k:=⟨_,rfl⟩
    have hbt:∀ h:k<s.size,((s[k]'h).toNat:Int)=c:=fun h=>by rw [hc];exact PlainAid.get_bt s k h
    rw [← hc] at hu hx0 hx1
    clear hc
    have H:=Lib.hid (fun w=>digit_any c hx0 hx1 w)
    by_cases hpc:digitB c=true
    · have hn : Hid (spanN digitB (bytesFrom s (k + 1)) + (k + 1) = R) := by
       rw [Hid,← hp.out,hfr];simp only [spanN];rw [hu,if_pos hpc];omega
      rw [hpc] at H
      clear hfr hu hp hpc
      go_wp2_with (go_at_call 72;refine (H.out _).mono ?_;rintro e w' ⟨rfl,rfl⟩)
      go_round
      case rel=>exact ⟨k+1,by omega,by go_num,hn⟩
      case measure=>simp [intOf];omega
    · have hn : Hid (k = R) := by
       rw [Hid,← hp.out,hfr];simp only [spanN];rw [hu,if_neg hpc];omega
      have hpf:digitB c=false:=by simpa using hpc
      rw [hpf] at H
      clear hfr hu hp hpc hpf
      go_wp2_with (go_at_call 72;refine (H.out _).mono ?_;rintro e w' ⟨rfl,rfl⟩)
      go_ret
      rw [← hn.out]
      exact ⟨rfl,rfl⟩
  · have hn : Hid (s.size = R) := by
     rw [Hid,← hp.out,from_end s k (by omega)];simp only [spanN];omega
    clear hp
    go_wp2_with fail
    go_ret
    rw [← hn.out]
    exact ⟨rfl,rfl⟩
theorem span_named (s:ByteArray) (hs:s.size≤4611686018427387904) (w:World):Calls Tryz.prog 74 #[.string s,.func (.func 75) #[] #[]] w fun e w'=>e=.returned (.int .i64 (spanN namedB s.data.toList))∧w=w':=by
 obtain ⟨R,hR⟩:∃ R,R=spanN namedB s.data.toList:=⟨_,rfl⟩
 rw [← hR]
 have HR:=Lib.hid hR
 clear hR
 go_enter Tryz.func74,Tryz.ntmps74
 go_wp2_with fail
 go_loop [8] (fun i=>∃ k:Nat,k≤s.size∧i=.int .i64 k∧Hid (spanN namedB (bytesFrom s k)+k=R)) (fun i=>s.size-(intOf i).toNat)
 case atStart=>exact ⟨0,Nat.zero_le _,rfl,HR.out.symm⟩
 case round =>
  obtain ⟨k,hk,rfl,hp⟩:=hrel
  by_cases hlt:k<s.size
  · have hx0 := PlainAid.bt_nonneg s k
    have hx1:=PlainAid.bt_le s k
    have hu:((s[k]).toNat:Int)=PlainAid.bt s k:=PlainAid.get_bt s k hlt
    have hfr:=from_at s k hlt
    obtain ⟨c,hc⟩:∃ c,c=PlainAid.bt s k:=⟨_,rfl⟩
    have hbt:∀ h:k<s.size,((s[k]'h).toNat:Int)=c:=fun h=>by rw [hc];exact PlainAid.get_bt s k h
    rw [← hc] at hu hx0 hx1
    clear hc
    have H:=Lib.hid (fun w=>named_any c hx0 hx1 w)
    by_cases hpc:namedB c=true
    · have hn : Hid (spanN namedB (bytesFrom s (k + 1)) + (k + 1) = R) := by
       rw [Hid,← hp.out,hfr];simp only [spanN];rw [hu,if_pos hpc];omega
      rw [hpc] at H
      clear hfr hu hp hpc
      go_wp2_with (go_at_call 75;refine (H.out _).mono ?_;rintro e w' ⟨rfl,rfl⟩)
      go_round
      case rel=>exact ⟨k+1,by omega,by go_num,hn⟩
      case measure=>simp [intOf];omega
    · have hn : Hid (k = R) := by
       rw [Hid,← hp.out,hfr];simp only [spanN];rw [hu,if_neg hpc];omega
      have hpf:namedB c=false:=by simpa using hpc
      rw [hpf] at H
      clear hfr hu hp hpc hpf
      go_wp2_with (go_at_call 75;refine (H.out _).mono ?_;rintro e w' ⟨rfl,rfl⟩)
      go_ret
      rw [← hn.out]
      exact ⟨rfl,rfl⟩
  · have hn : Hid (s.size = R) := by
     rw [Hid,← hp.out,from_end s k (by omega)];simp only [spanN];omega
    clear hp
    go_wp2_with fail
    go_ret
    rw [← hn.out]
    exact ⟨rfl,rfl⟩
theorem span_blank (s:ByteArray) (hs:s.size≤4611686018427387904) (w:World):Calls Tryz.prog 74 #[.string s,.func (.func 148) #[] #[]] w fun e w'=>e=.returned (.int .i64 (spanN blankB s.data.toList))∧w=w':=by
 obtain ⟨R,hR⟩:∃ R,R=spanN blankB s.data.toList:=⟨_,rfl⟩
 rw [← hR]
 have HR:=Lib.hid hR
 clear hR
 go_enter Tryz.func74,Tryz.ntmps74
 go_wp2_with fail
 go_loop [8] (fun i=>∃ k:Nat,k≤s.size∧i=.int .i64 k∧Hid (spanN blankB (bytesFrom s k)+k=R)) (fun i=>s.size-(intOf i).toNat)
 case atStart=>exact ⟨0,Nat.zero_le _,rfl,HR.out.symm⟩
 case round =>
  obtain ⟨k,hk,rfl,hp⟩:=hrel
  by_cases hlt:k<s.size
  · have hx0 := PlainAid.bt_nonneg s k
    have hx1:=PlainAid.bt_le s k
    have hu:((s[k]).toNat:Int)=PlainAid.bt s k:=PlainAid.get_bt s k hlt
    have hfr:=from_at s k hlt
    obtain ⟨c,hc⟩:∃ c,c=PlainAid.bt s k:=⟨_,rfl⟩
    have hbt:∀ h:k<s.size,((s[k]'h).toNat:Int)=c:=fun h=>by rw [hc];exact PlainAid.get_bt s k h
    rw [← hc] at hu hx0 hx1
    clear hc
    have H:=Lib.hid (fun w=>blank_any c hx0 hx1 w)
    by_cases hpc:blankB c=true
    · have hn : Hid (spanN blankB (bytesFrom s (k + 1)) + (k + 1) = R) := by
       rw [Hid,← hp.out,hfr];simp only [spanN];rw [hu,if_pos hpc];omega
      rw [hpc] at H
      clear hfr hu hp hpc
      go_wp2_with (go_at_call 148;refine (H.out _).mono ?_;rintro e w' ⟨rfl,rfl⟩)
      go_round
      case rel=>exact ⟨k+1,by omega,by go_num,hn⟩
      case measure=>simp [intOf];omega
    · have hn : Hid (k = R) := by
       rw [Hid,← hp.out,hfr];simp only [spanN];rw [hu,if_neg hpc];omega
      have hpf:blankB c=false:=by simpa using hpc
      rw [hpf] at H
      clear hfr hu hp hpc hpf
      go_wp2_with (go_at_call 148;refine (H.out _).mono ?_;rintro e w' ⟨rfl,rfl⟩)
      go_ret
      rw [← hn.out]
      exact ⟨rfl,rfl⟩
  · have hn : Hid (s.size = R) := by
     rw [Hid,← hp.out,from_end s k (by omega)];simp only [spanN];omega
    clear hp
    go_wp2_with fail
    go_ret
    rw [← hn.out]
    exact ⟨rfl,rfl⟩
theorem span_feed (s:ByteArray) (hs:s.size≤4611686018427387904) (w:World):Calls Tryz.prog 74 #[.string s,.func (.func 149) #[] #[]] w fun e w'=>e=.returned (.int .i64 (spanN feedB s.data.toList))∧w=w':=by
 obtain ⟨R,hR⟩:∃ R,R=spanN feedB s.data.toList:=⟨_,rfl⟩
 rw [← hR]
 have HR:=Lib.hid hR
 clear hR
 go_enter Tryz.func74,Tryz.ntmps74
 go_wp2_with fail
 go_loop [8] (fun i=>∃ k:Nat,k≤s.size∧i=.int .i64 k∧Hid (spanN feedB (bytesFrom s k)+k=R)) (fun i=>s.size-(intOf i).toNat)
 case atStart=>exact ⟨0,Nat.zero_le _,rfl,HR.out.symm⟩
 case round =>
  obtain ⟨k,hk,rfl,hp⟩:=hrel
  by_cases hlt:k<s.size
  · have hx0 := PlainAid.bt_nonneg s k
    have hx1:=PlainAid.bt_le s k
    have hu:((s[k]).toNat:Int)=PlainAid.bt s k:=PlainAid.get_bt s k hlt
    have hfr:=from_at s k hlt
    obtain ⟨c,hc⟩:∃ c,c=PlainAid.bt s k:=⟨_,rfl⟩
    have hbt:∀ h:k<s.size,((s[k]'h).toNat:Int)=c:=fun h=>by rw [hc];exact PlainAid.get_bt s k h
    rw [← hc] at hu hx0 hx1
    clear hc
    have H:=Lib.hid (fun w=>feed_any c hx0 hx1 w)
    by_cases hpc:feedB c=true
    · have hn : Hid (spanN feedB (bytesFrom s (k + 1)) + (k + 1) = R) := by
       rw [Hid,← hp.out,hfr];simp only [spanN];rw [hu,if_pos hpc];omega
      rw [hpc] at H
      clear hfr hu hp hpc
      go_wp2_with (go_at_call 149;refine (H.out _).mono ?_;rintro e w' ⟨rfl,rfl⟩)
      go_round
      case rel=>exact ⟨k+1,by omega,by go_num,hn⟩
      case measure=>simp [intOf];omega
    · have hn : Hid (k = R) := by
       rw [Hid,← hp.out,hfr];simp only [spanN];rw [hu,if_neg hpc];omega
      have hpf:feedB c=false:=by simpa using hpc
      rw [hpf] at H
      clear hfr hu hp hpc hpf
      go_wp2_with (go_at_call 149;refine (H.out _).mono ?_;rintro e w' ⟨rfl,rfl⟩)
      go_ret
      rw [← hn.out]
      exact ⟨rfl,rfl⟩
  · have hn : Hid (s.size = R) := by
     rw [Hid,← hp.out,from_end s k (by omega)];simp only [spanN];omega
    clear hp
    go_wp2_with fail
    go_ret
    rw [← hn.out]
    exact ⟨rfl,rfl⟩
open Go.RowKit
set_option linter.unusedVariables false
def levelOf (o:Int):Int:=if 19≤o then 0 else lev.getD o.toNat 0
theorem level_any (o:Int) (h0:0≤o) (h1:o≤255) (w:World) (T:Tabs w) :
 Calls Tryz.prog 103 #[.int .u8 o] w fun e w'=>e=.returned (.int .i64 (levelOf o))∧w=w':=by
 by_cases h:19≤o
 · have hl : levelOf o = 0 := by unfold levelOf; rw [if_pos h]
   rw [hl];clear hl
   go_enter Tryz.func103,Tryz.ntmps103
   go_wp2
   go_ret
   exact ⟨rfl,rfl⟩
 · have hc := T.lev o.toNat (by omega)
   have hl:levelOf o=lev.getD o.toNat 0:=by unfold levelOf;rw [if_neg h]
   rw [hl];clear hl
   obtain ⟨v,hv⟩:∃ v,v=lev.getD o.toNat 0:=⟨_,rfl⟩
   rw [← hv] at hc ⊢
   clear hv T
   go_enter Tryz.func103,Tryz.ntmps103
   go_wp2
   go_ret
   exact ⟨rfl,rfl⟩
theorem two_yes (o:Int) (h0:0≤o) (h1:o≤255) (hl:0<levelOf o) (hh:levelOf o<9) (w:World) (T:Tabs w) :
 Calls Tryz.prog 59 #[.int .u8 o] w fun e w'=>e=.returned (.bool true)∧w=w':=by
 have H:=Lib.hid (level_any o h0 h1 w T)
 obtain ⟨v,hv⟩:∃ v,v=levelOf o:=⟨_,rfl⟩
 rw [← hv] at hl hh H
 clear hv T h0 h1
 go_enter Tryz.func59,Tryz.ntmps59
 go_wp2_with (go_at_call 103;refine (H.out).mono ?_;rintro e w' ⟨rfl,rfl⟩)
 go_ret
 exact ⟨rfl,rfl⟩
theorem two_no (o:Int) (h0:0≤o) (h1:o≤255) (hl:levelOf o=0∨levelOf o=9) (w:World) (T:Tabs w) :
 Calls Tryz.prog 59 #[.int .u8 o] w fun e w'=>e=.returned (.bool false)∧w=w':=by
 have H:=Lib.hid (level_any o h0 h1 w T)
 clear T h0 h1
 rcases hl with hl | hl
 all_goals
  rw [hl] at H
  clear hl
  go_enter Tryz.func59,Tryz.ntmps59
  go_wp2_with (go_at_call 103;refine (H.out).mono ?_;rintro e w' ⟨rfl,rfl⟩)
  go_ret
  exact ⟨rfl,rfl⟩
def signOf (o:Int):List UInt8:=if 19≤o then [] else sgn.getD o.toNat []
def sgnAt (k:Nat):List UInt8:=sgn.getD k []
def fndFrom (l:List UInt8):Nat→Nat→Int × Bool
 | 0,_=>(0,false)
 | n+1,k=>if sgnAt k=l then ((k:Int),true) else fndFrom l n (k+1)
def fnd (l:List UInt8):Int × Bool:=fndFrom l 16 1
theorem fnd_step {l:List UInt8} {k:Nat} (h0:1≤k) (h1:k≤16) (hp:fndFrom l (17-k) k=fnd l) (hn:sgnAt k≠l):fndFrom l (17-(k+1)) (k+1)=fnd l:=by
 rw [← hp,show 17-k=(17-(k+1))+1 by omega]
 simp only [fndFrom]
 rw [if_neg hn]
theorem fnd_hit {l:List UInt8} {k:Nat} (h0:1≤k) (h1:k≤16) (hp:fndFrom l (17-k) k=fnd l) (hn:sgnAt k=l):fnd l=((k:Int),true):=by
 rw [← hp,show 17-k=(17-(k+1))+1 by omega]
 simp only [fndFrom]
 rw [if_pos hn]
theorem Tabs.drewN {w:World} (T:Tabs w) (n:Nat):Tabs (w.drewN n):=T.below (Nat.le_refl _) ⟨rfl,rfl,rfl,Nat.le_refl _,fun _ _=>rfl⟩
theorem found_yes (b:Nat) (k:Nat) (s v:ByteArray) (w:World) (T:Tabs w) (h1:1≤k) (h2:k≤16) (hc:w.cell? ⟨b,0,none⟩=some (.string s)) (hv:w.cell? ⟨3,k,none⟩=some (.string v)) :
 Calls Tryz.prog 134 #[.int .u8 (k:Int),.pointer (some ⟨b,0,none⟩)] w fun e w'=>e=.returned (.bool (v.toList==s.toList))∧∃ n,w'=w.drewN n:=by
 have hl:0<levelOf (k:Int)∧levelOf (k:Int)<9:=by
  have:k=1∨k=2∨k=3∨k=4∨k=5∨k=6∨k=7∨k=8∨k=9∨k=10∨k=11∨k=12∨k=13∨k=14∨k=15∨k=16:=by omega
  rcases this with rfl | rfl | rfl | rfl | rfl | rfl | rfl | rfl | rfl | rfl | rfl | rfl | rfl | rfl | rfl | rfl <;> decide
 have H2:∀ W:World,Tabs W→Calls Tryz.prog 59 #[.int .u8 (k:Int)] W fun e w'=>e=.returned (.bool true)∧w'=W:=fun W TW =>
  (two_yes (k:Int) (by omega) (by omega) hl.1 hl.2 W TW).mono fun _ _ ⟨a,c⟩=>⟨a,c.symm⟩
 have HH:=Lib.hid H2
 clear H2 hl
 go_enter Tryz.func134,Tryz.ntmps134
 go_wp2
 go_quiet ((go_at_call 59;exact Calls.quiet_of_same (HH.out _ (T.drewN _))))
 go_wp2
 go_ret
 exact ⟨rfl,_,rfl⟩
theorem found_no (b:Nat) (k:Nat) (w:World) (T:Tabs w) (h:k=0∨k=17∨k=18) :
 Calls Tryz.prog 134 #[.int .u8 (k:Int),.pointer (some ⟨b,0,none⟩)] w fun e w'=>e=.returned (.bool false)∧∃ n,w'=w.drewN n:=by
 have hl:levelOf (k:Int)=0∨levelOf (k:Int)=9:=by
  rcases h with rfl | rfl | rfl <;> decide
 have H2:∀ W:World,Tabs W→Calls Tryz.prog 59 #[.int .u8 (k:Int)] W fun e w'=>e=.returned (.bool false)∧w'=W:=fun W TW =>
  (two_no (k:Int) (by omega) (by omega) hl W TW).mono fun _ _ ⟨a,c⟩=>⟨a,c.symm⟩
 have HH:=Lib.hid H2
 clear H2 hl h
 go_enter Tryz.func134,Tryz.ntmps134
 go_wp2
 go_quiet ((go_at_call 59;exact Calls.quiet_of_same (HH.out _ (T.drewN _))))
 go_wp2
 go_ret
 exact ⟨rfl,_,rfl⟩
def FP (l:List UInt8) (k:Nat):Prop:=(1≤k→k≤17→fndFrom l (17-k) k=fnd l)∧(17≤k→fnd l=(0,false))
theorem below_drewN {B:Nat} {a w:World} (h:Below B a w) (n:Nat):Below B a (w.drewN n):=⟨h.os,h.tape,h.output,h.size,h.block⟩
theorem find_any (s:ByteArray) (w:World) (T:Tabs w):Calls Tryz.prog 107 #[.string s] w fun e w'=>e=.returned (.tuple #[.int .u8 (fnd s.data.toList).1,.bool (fnd s.data.toList).2])∧Below w.heap.size w w':=by
 obtain ⟨R,hR⟩:∃ R,R=fnd s.data.toList:=⟨_,rfl⟩
 rw [← hR]
 have HR:=Lib.hid hR
 clear hR
 have hA:Below w.heap.size w (w.alloc (.cells #[.string s] 9)):=(Below.refl _ _).alloc (Nat.le_refl _) _
 have TA:=T.below (Nat.le_refl _) hA
 clear T
 go_enter Tryz.func107,Tryz.ntmps107
 go_wp2_with fail
 go_loopw [7] (fun o wr=>∃ k:Nat,k≤19∧o=.int .u8 k∧FP s.data.toList k∧wr.cell? ⟨w.heap.size,0,none⟩=some (.string s)∧Tabs wr∧Below w.heap.size w wr) (fun o _=>19-(intOf o).toNat)
 case atStart=>exact ⟨0,by omega,rfl,⟨fun h=>by omega,fun h=>by omega⟩,cell_of_row _ _ 0 _ _ _ (heap_alloc_new _ _),TA,hA⟩
 case round =>
  obtain ⟨k,hk,rfl,hp,hc,T,hB⟩:=hrel
  clear TA hA
  have hz:=hB.size
  by_cases hk19:k<19
  · by_cases hin : 1 ≤ k ∧ k ≤ 16
    · obtain ⟨v, hv⟩ : ∃ v : ByteArray, v = ⟨(sgn.getD k []).toArray⟩ := ⟨_, rfl⟩
      have hcv:=T.sgn k hk19
      rw [← hv] at hcv
      have hvl:v.data.toList=sgnAt k:=by rw [hv];rfl
      have hp1:=hp.1 hin.1 (by omega)
      have H:=Lib.hid (found_yes w.heap.size k s v wr T hin.1 hin.2 hc hcv)
      clear hv hcv
      by_cases he:v.data.toList=s.data.toList
      · have hres : Hid (R = ((k : Int), true)) := by rw [Hid, HR.out, fnd_hit hin.1 hin.2 hp1 (hvl.symm.trans he)]
        have ht:(v.toList==s.toList)=true:=bytes_t he
        rw [ht] at H
        clear hvl he hp hp1 hin ht
        go_wp2_with (go_at_call 134;refine (H.out).mono ?_;rintro e w1 ⟨rfl,n,rfl⟩)
        go_ret2
        rw [hres.out]
        exact ⟨rfl,below_drewN hB _⟩
      · have hnx : FP s.data.toList (k + 1) := by
         have hst:=fnd_step hin.1 hin.2 hp1 (fun h=>he (hvl.trans h))
         refine ⟨fun _ _=>hst,fun h=>?_⟩
         obtain rfl:k=16:=by omega
         exact hst.symm
        have ht:(v.toList==s.toList)=false:=bytes_f he
        rw [ht] at H
        clear hvl he hp hp1 hin ht
        go_wp2_with (go_at_call 134;refine (H.out).mono ?_;rintro e w1 ⟨rfl,n,rfl⟩)
        go_roundw
        case rel=>exact ⟨k+1,by omega,by go_num,hnx,hc,T.drewN _,below_drewN hB _⟩
        case measure=>simp [intOf];omega
    · have H := Lib.hid (found_no w.heap.size k wr T (by omega))
      have hnx:FP s.data.toList (k+1):=by
       refine ⟨fun _ h=>?_,fun h=>hp.2 (by omega)⟩
       obtain rfl:k=0:=by omega
       rfl
      clear hp hin
      go_wp2_with (go_at_call 134;refine (H.out).mono ?_;rintro e w1 ⟨rfl,n,rfl⟩)
      go_roundw
      case rel=>exact ⟨k+1,by omega,by go_num,hnx,hc,T.drewN _,below_drewN hB _⟩
      case measure=>simp [intOf];omega
  · have hres : Hid (R = (0, false)) := by rw [Hid, HR.out, hp.2 (by omega)]
    clear hp
    go_wp2_with fail
    go_ret2
    rw [hres.out]
    exact ⟨rfl,hB⟩
end Go.Proofs.YtggbkldniffbfaaGreatDoor

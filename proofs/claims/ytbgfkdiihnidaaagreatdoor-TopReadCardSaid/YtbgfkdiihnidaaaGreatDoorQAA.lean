import Derived.Test.YtbgfkdiihnidaaaGreatDoorRows
import Derived.WalkKit
import Derived.ProofKit
import Derived.LaidMore
import Derived.OpenShut
import Derived.ShutString
import Derived.Stop.Joined
import Derived.Below
import Derived.WalkSmall
import Derived.SevenTiedAt
import Derived.Handy
import Derived.PlainAid
import Derived.Lib.LaidTab
import Derived.Lib.Hide
import Derived.Lib.Strings
import Derived.Laws.Rows
import Derived.Laws.Tables
import Derived.Lib.ItoaNum
import Derived.MakeChecks
import Derived.WalkLawsBesides
import Derived.Shelf.Strings.Builder1
import Derived.Shelf.Strings.BuilderF
import Derived.Shelf.Strconv.Itoa0
import Derived.Shelf.Strconv.Itoa1
import Derived.Shelf.LaysM
import Derived.Shelf.Strconv.Clone
import Derived.Shelf.Strings.Search1
import Derived.Shelf.Small.Strs
import Derived.Shelf.Strings.Prefix
import Derived.Shelf.Bits.Mul64
import Derived.Test.YtbgfkdiihnidaaaGreatDoorProg
import Derived.Lib.Bytealg
import Derived.Deep.QuietTactic
import Derived.BigQuiet
set_option maxRecDepth 100000
set_option maxHeartbeats 20000000
namespace Go.Proofs.YtbgfkdiihnidaaaGreatDoor
open Go.ChangeShapes Go.WideShapes Go.ChangeAt Go.WideMaps Go.WideElems Go.RowKit
open Go.ChangeMaps (open_string shut_string)
theorem Hd {p:Prop} (h:p):Hid p:=Lib.hid h
theorem Qx.{u} {α:Sort u} (a:α):∃ n,n=a:=⟨a,rfl⟩
theorem cb {B:Nat} {w w1:World} {p:Addr} {v:Option Value} (h:Below B w w1) (hp:p.block<B) (e:w.cell? p=v):w1.cell? p=v:=(h.cell hp).trans e
abbrev F14_ {a0 a1 a2 a3 a4 a5 a6 a7 a8 a9 a10 a11 a12 a13:Value}:Act:={tmps:=List.toArray (a0::a1::a2::a3::a4::a5::a6::a7::a8::a9::a10::a11::a12::a13::[]),defers:=[]}
abbrev F16_ {a0 a1 a2 a3 a4 a5 a6 a7 a8 a9 a10 a11 a12 a13 a14 a15:Value}:Act:={tmps:=List.toArray (a0::a1::a2::a3::a4::a5::a6::a7::a8::a9::a10::a11::a12::a13::a14::a15::[]),defers:=[]}
abbrev F19_ {a0 a1 a2 a3 a4 a5 a6 a7 a8 a9 a10 a11 a12 a13 a14 a15 a16 a17 a18:Value}:Act:={tmps:=List.toArray (a0::a1::a2::a3::a4::a5::a6::a7::a8::a9::a10::a11::a12::a13::a14::a15::a16::a17::a18::[]),defers:=[]}
abbrev F20_ {a0 a1 a2 a3 a4 a5 a6 a7 a8 a9 a10 a11 a12 a13 a14 a15 a16 a17 a18 a19:Value}:Act:={tmps:=List.toArray (a0::a1::a2::a3::a4::a5::a6::a7::a8::a9::a10::a11::a12::a13::a14::a15::a16::a17::a18::a19::[]),defers:=[]}
abbrev F28_ {a0 a1 a2 a3 a4 a5 a6 a7 a8 a9 a10 a11 a12 a13 a14 a15 a16 a17 a18 a19 a20 a21 a22 a23 a24 a25 a26 a27:Value}:Act:={tmps:=List.toArray (a0::a1::a2::a3::a4::a5::a6::a7::a8::a9::a10::a11::a12::a13::a14::a15::a16::a17::a18::a19::a20::a21::a22::a23::a24::a25::a26::a27::[]),defers:=[]}
abbrev F36_ {a0 a1 a2 a3 a4 a5 a6 a7 a8 a9 a10 a11 a12 a13 a14 a15 a16 a17 a18 a19 a20 a21 a22 a23 a24 a25 a26 a27 a28 a29 a30 a31 a32 a33 a34 a35:Value}:Act:={tmps:=List.toArray (a0::a1::a2::a3::a4::a5::a6::a7::a8::a9::a10::a11::a12::a13::a14::a15::a16::a17::a18::a19::a20::a21::a22::a23::a24::a25::a26::a27::a28::a29::a30::a31::a32::a33::a34::a35::[]),defers:=[]}
abbrev F38_ {a0 a1 a2 a3 a4 a5 a6 a7 a8 a9 a10 a11 a12 a13 a14 a15 a16 a17 a18 a19 a20 a21 a22 a23 a24 a25 a26 a27 a28 a29 a30 a31 a32 a33 a34 a35 a36 a37:Value}:Act:={tmps:=List.toArray (a0::a1::a2::a3::a4::a5::a6::a7::a8::a9::a10::a11::a12::a13::a14::a15::a16::a17::a18::a19::a20::a21::a22::a23::a24::a25::a26::a27::a28::a29::a30::a31::a32::a33::a34::a35::a36::a37::[]),defers:=[]}
abbrev F42_ {a0 a1 a2 a3 a4 a5 a6 a7 a8 a9 a10 a11 a12 a13 a14 a15 a16 a17 a18 a19 a20 a21 a22 a23 a24 a25 a26 a27 a28 a29 a30 a31 a32 a33 a34 a35 a36 a37 a38 a39 a40 a41:Value}:Act:={tmps:=List.toArray (a0::a1::a2::a3::a4::a5::a6::a7::a8::a9::a10::a11::a12::a13::a14::a15::a16::a17::a18::a19::a20::a21::a22::a23::a24::a25::a26::a27::a28::a29::a30::a31::a32::a33::a34::a35::a36::a37::a38::a39::a40::a41::[]),defers:=[]}
abbrev F74_ {a0 a1 a2 a3 a4 a5 a6 a7 a8 a9 a10 a11 a12 a13 a14 a15 a16 a17 a18 a19 a20 a21 a22 a23 a24 a25 a26 a27 a28 a29 a30 a31 a32 a33 a34 a35 a36 a37 a38 a39 a40 a41 a42 a43 a44 a45 a46 a47 a48 a49 a50 a51 a52 a53 a54 a55 a56 a57 a58 a59 a60 a61 a62 a63 a64 a65 a66 a67 a68 a69 a70 a71 a72 a73:Value}:Act:={tmps:=List.toArray (a0::a1::a2::a3::a4::a5::a6::a7::a8::a9::a10::a11::a12::a13::a14::a15::a16::a17::a18::a19::a20::a21::a22::a23::a24::a25::a26::a27::a28::a29::a30::a31::a32::a33::a34::a35::a36::a37::a38::a39::a40::a41::a42::a43::a44::a45::a46::a47::a48::a49::a50::a51::a52::a53::a54::a55::a56::a57::a58::a59::a60::a61::a62::a63::a64::a65::a66::a67::a68::a69::a70::a71::a72::a73::[]),defers:=[]}
abbrev F111_ {a0 a1 a2 a3 a4 a5 a6 a7 a8 a9 a10 a11 a12 a13 a14 a15 a16 a17 a18 a19 a20 a21 a22 a23 a24 a25 a26 a27 a28 a29 a30 a31 a32 a33 a34 a35 a36 a37 a38 a39 a40 a41 a42 a43 a44 a45 a46 a47 a48 a49 a50 a51 a52 a53 a54 a55 a56 a57 a58 a59 a60 a61 a62 a63 a64 a65 a66 a67 a68 a69 a70 a71 a72 a73 a74 a75 a76 a77 a78 a79 a80 a81 a82 a83 a84 a85 a86 a87 a88 a89 a90 a91 a92 a93 a94 a95 a96 a97 a98 a99 a100 a101 a102 a103 a104 a105 a106 a107 a108 a109 a110:Value}:Act:={tmps:=List.toArray (a0::a1::a2::a3::a4::a5::a6::a7::a8::a9::a10::a11::a12::a13::a14::a15::a16::a17::a18::a19::a20::a21::a22::a23::a24::a25::a26::a27::a28::a29::a30::a31::a32::a33::a34::a35::a36::a37::a38::a39::a40::a41::a42::a43::a44::a45::a46::a47::a48::a49::a50::a51::a52::a53::a54::a55::a56::a57::a58::a59::a60::a61::a62::a63::a64::a65::a66::a67::a68::a69::a70::a71::a72::a73::a74::a75::a76::a77::a78::a79::a80::a81::a82::a83::a84::a85::a86::a87::a88::a89::a90::a91::a92::a93::a94::a95::a96::a97::a98::a99::a100::a101::a102::a103::a104::a105::a106::a107::a108::a109::a110::[]),defers:=[]}
def wordsL:List (List UInt8):=[[115,104,97,114,101,100],[108,111,99,107],[116,104,114,101,97,100],[108,111,99,97,108],[105,102],[101,108,115,101],[119,104,105,108,101],[112,114,105,110,116],[115,107,105,112],[115,119,97,112]]
def longL:List (List UInt8):=[[61,61],[33,61],[60,61],[62,61],[60,60],[62,62]]
theorem own:ownKnob Tryz.prog.godebug=none:=by kernel_rfl
theorem gWords:Tryz.prog.globalNamed "stile/lexer.languageWords" = some 0:=by kernel_rfl
theorem gLong:Tryz.prog.globalNamed "stile/lexer.longSigns" = some 4:=by kernel_rfl
theorem tWords:(Tryz.prog.globals[0]?).map (·.type)=some 169:=by kernel_rfl
theorem tLong:(Tryz.prog.globals[4]?).map (·.type)=some 249:=by kernel_rfl
def wordCells:Array Value:=(wordsL.map fun s=>Value.string ⟨s.toArray⟩).toArray
def longCells:Array Value:=(longL.map fun s=>Value.string ⟨s.toArray⟩).toArray
structure LTabs (W:World):Prop where
 words:W.var? Tryz.prog "stile/lexer.languageWords" = some wordCells
 long:W.var? Tryz.prog "stile/lexer.longSigns" = some longCells
 size1:0<W.heap.size
 size2:4<W.heap.size
theorem lt_of_at {w:World} {a:Addr} {v:Value} (h:w.cell? a=some v):a.block<w.heap.size:=by
 apply Nat.lt_of_not_le;intro b;simp [World.cell?,Array.getElem?_eq_none b] at h
theorem cells_of_strs {H:Type} {enc:TypeId × Value->H} {P:Program} {w:World} {base:Nat} {sp:Nat->Bool} {held:Bool} {fuel:Nat} {t e:TypeId} {n:Nat} {cs:List Value} {ss:List (List UInt8)} {p:List MemPlace}
 (ht:P.underlying t=some (.array n e)) (he:P.underlying e=some .string) (hce:P.cellsOf e=1) (hct:P.cellsOf t=n)
 (h:DataW.trod enc P w base sp held fuel t cs=some (.agg (ss.map fun s=>.lit (.string s)),p)):cs=ss.map fun s=>Value.string ⟨s.toArray⟩:=by
 cases fuel with
 | zero=>simp [DataW.trod] at h
 | succ fuel =>
   simp only [DataW.trod,ht,hce,hct,Nat.mul_one] at h;split at h
   · rename_i hl
     obtain ⟨d,g,o⟩:=Option.map_eq_some_iff.1 h;have a:d.map (·.1)=ss.map fun s=>(DataW.lit (.string s):DataW H):=by
      have:=congrArg Prod.fst o;simpa using this
     have k:d.length=n:=by simpa using Lib.mapM_length g
     apply List.ext_getElem?;intro i;by_cases hi:i<n
     · obtain ⟨b, l, j⟩ := Lib.mapM_at g i i (by simp [hi])
       obtain ⟨z,v,rfl,_⟩:=DataW.trod_string he j;have q:cs[i]? = some (.string z):=by
        have:=congrArg (·[0]?) v;simpa [List.getElem?_take,List.getElem?_drop] using this
       have c:(d.map (·.1))[i]? = some (DataW.lit (.string z.data.toList):DataW H):=by simp [l]
       rw [a] at c;simp only [List.getElem?_map,Option.map_eq_some_iff,DataW.lit.injEq,Lit.string.injEq] at c;obtain ⟨x,f,r⟩:=c;subst r;simp [q,f]
     · have m : ss.length = n := by
        have:=congrArg List.length a;simp at this;omega
       rw [List.getElem?_eq_none (by omega),List.getElem?_eq_none (by simp;omega)]
   · cases h
theorem LTabs.below {W W':World} {B:Nat} (T:LTabs W) (hB:W.heap.size<=B) (h:Below B W W'):LTabs W':=by
 have a:=T.size1;have b:=T.size2;exact ⟨var?_below h gWords (by omega) T.words,var?_below h gLong (by omega) T.long,by have:=h.size;omega,by have:=h.size;omega⟩
def lev:List Int:=[0,7,7,8,8,8,3,1,2,6,6,4,4,5,5,5,5,9,9]
def sgn:List (List UInt8):=[[],[43],[45],[42],[47],[37],[38],[124],[94],[60,60],[62,62],[61,61],[33,61],[60],[60,61],[62],[62,61],[45],[33]]
theorem gLev:Tryz.prog.globalNamed "stile/words.levels" = some 1:=by kernel_rfl
theorem gSgn:Tryz.prog.globalNamed "stile/words.signs" = some 5:=by kernel_rfl
theorem tLev:(Tryz.prog.globals[1]?).map (·.type)=some 178:=by kernel_rfl
theorem tSgn:(Tryz.prog.globals[5]?).map (·.type)=some 250:=by kernel_rfl
structure Tabs (W:World):Prop where
 size1:1<W.heap.size
 size2:5<W.heap.size
 lev:∀ i,i<19->W.cell? ⟨1,i,none⟩=some (.int .i64 (lev.getD i 0))
 sgn:∀ i,i<19->W.cell? ⟨5,i,none⟩=some (.string ⟨(sgn.getD i []).toArray⟩)
theorem Tabs.below {W W':World} {B:Nat} (T:Tabs W) (hB:W.heap.size<=B) (h:Below B W W'):Tabs W':=by
 have a:=T.size1;have b:=T.size2;refine ⟨by have:=h.size;omega,by have:=h.size;omega,fun i hi=>?_,fun i hi=>?_⟩
 · rw [h.cell (p:=⟨1,i,none⟩) (by show 1<B;omega)];exact T.lev i hi
 · rw [h.cell (p:=⟨5,i,none⟩) (by show 5<B;omega)];exact T.sgn i hi
theorem laid_var {P:Program} {W:World} {n:String} {d:DataW Unit} {g:Nat} {t:TypeId} (hg:P.globalNamed n=some g) (ht:(P.globals[g]?).map (·.type)=some t):∀ {L:List (String × DataW Unit)} {ps:List MemPlace},DataW.LaidVars P W L ps->(n,d)∈L ->
 ∃ cs fuel p,W.var? P n=some cs/\DataW.trod (fun _=>()) P W 0 (fun _=>true) false fuel t cs.toList=some (d,p)
 | (m, e) :: r, ps, ⟨g', t', cs, fuel, p, q, h1, h2, h3, h4, h5, _⟩, hm => by
   rcases List.mem_cons.1 hm with h | h
   · cases h
     obtain rfl:=Option.some.inj (hg.symm.trans h1)
     obtain rfl:=Option.some.inj (ht.symm.trans h2)
     exact ⟨cs,fuel,p,h3,h4⟩
   · exact laid_var hg ht h5 h
theorem tabs_of_vars {W:World} {L:List (String × DataW Unit)} {ps:List MemPlace} (h:DataW.LaidVars Tryz.prog W L ps) (h1:("stile/words.levels",Rows.laid_stile_words_levels)∈L) (h2:("stile/words.signs",Rows.laid_stile_words_signs)∈L):Tabs W:=by
 obtain ⟨o,s,n,f,l⟩:=laid_var gLev tLev h h1;obtain ⟨p,q,r,d,j⟩:=laid_var gSgn tSgn h h2;have b:=Lib.cells_of_tab (k:=.i64) (zs:=lev) Tryz.underlying178 Tryz.underlying3 (by kernel_rfl) (by kernel_rfl) l
 have c:=cells_of_strs (ss:=sgn) Tryz.underlying250 Tryz.underlying9 (by kernel_rfl) (by kernel_rfl) j
 have m:=lt_of_at (v:=.int .i64 0) (by rw [World.var?_cell gLev f 0,<- Array.getElem?_toList,b];rfl)
 have g:=lt_of_at (v:=.string ⟨#[]⟩) (by rw [World.var?_cell gSgn d 0,<- Array.getElem?_toList,c];rfl)
 refine ⟨m,g,fun i hi=>?_,fun i hi=>?_⟩
 · have := World.var?_cell gLev f i
   rw [<- Array.getElem?_toList,b] at this;rw [this];have a:i<lev.length:=hi;simp [List.getD,a]
 · have := World.var?_cell gSgn d i
   rw [<- Array.getElem?_toList,c] at this;rw [this];have a:i<sgn.length:=hi;simp [List.getD,a]
theorem ltabs_of_vars {W:World} {L:List (String × DataW Unit)} {ps:List MemPlace} (h:DataW.LaidVars Tryz.prog W L ps) (h1:("stile/lexer.languageWords",Rows.laid_stile_lexer_languageWords)∈L) (h2:("stile/lexer.longSigns",Rows.laid_stile_lexer_longSigns)∈L):LTabs W:=by
 obtain ⟨i,r,o,c,n⟩:=laid_var gWords tWords h h1;obtain ⟨l,p,q,b,m⟩:=laid_var gLong tLong h h2;have j:=cells_of_strs (ss:=wordsL) Tryz.underlying169 Tryz.underlying9 (by kernel_rfl) (by kernel_rfl) n
 have k:=cells_of_strs (ss:=longL) Tryz.underlying249 Tryz.underlying9 (by kernel_rfl) (by kernel_rfl) m
 have f:i=wordCells:=by unfold wordCells;rw [<- j]
 have g:l=longCells:=by unfold longCells;rw [<- k]
 subst f g;have d:=lt_of_at (v:=.string ⟨#[115,104,97,114,101,100]⟩) (by rw [World.var?_cell gWords c 0];rfl)
 have a:=lt_of_at (v:=.string ⟨#[61,61]⟩) (by rw [World.var?_cell gLong b 0];rfl)
 exact ⟨c,b,by simp only at d a;omega,by simp only at d a;omega⟩
theorem law_post {H:Type} {enc:TypeId × Value->H} {P:Program} {f:Func} {s:ChangeSpec} {W W':World} {args:Array Value} {tb:TypeId} {ds:List (DataW H)}
 (hW:DataW.Whole enc P f.params.toList s.vars false W args.toList ds [] []) (hres:f.resultTypes=#[tb]) (hb:P.underlying tb=some .bool)
 (hvars:s.vars=[]) (hfn:(s.fn H (ds++[])).results=[.lit (.bool true)]) (hfa:(s.fn H (ds++[])).args=ds) (hfv:(s.fn H (ds++[])).vars=[])
 (hargs:∀ sp:Nat->Bool,DataW.TrodAll enc P W' 0 sp true f.params.toList args.toList ds [])
 (hk:Below W.heap.size W W'):s.post enc P f false true false false W args (.bool true) W':=by
 have d:∀ (b:Nat) (sp:Nat->Bool) (hd:Bool),DataW.TrodAll enc P W' b sp hd f.resultTypes.toList ((Value.bool true).resultList f.resultTypes.size) (s.fn H (ds++[])).results []:=fun b sp hd=>by
  rw [hfn,hres];exact trodAll_mk1 (shut_bool hb _)
 have g:∀ sp:Nat->Bool,DataW.TrodAll enc P W' 0 sp true f.params.toList args.toList (s.fn H (ds++[])).args []:=fun sp=>by
  rw [hfa];exact hargs sp
 have c:∀ sp:Nat->Bool,DataW.TrodVars enc P W' sp s.vars (s.fn H (ds++[])).vars []:=fun sp=>by
  rw [hvars,hfv];rfl
 refine ⟨ds,[],[],[],[],[],hW,d _ _ _,g _,c _,World.keptBut_mono (fun p a=>by simp at a) (hk.frame (· ∈ ([]:List MemPlace))),fun _=>?_⟩
 refine ⟨?_,_,_,([]++[])++[],⟨[]++[],[],trodAll_append (g _) (d _ _ _),c _,rfl,?_,?_⟩,?_⟩
 · exact ok_one hres rfl (okWide_bool_mk hb _)
 · intro b j a;simp at a
 · intro i;simp at i
 · intro p a;simp at a
end Go.Proofs.YtbgfkdiihnidaaaGreatDoor
namespace Go.Proofs
open Go.Shelf
def Tryz.lays137_ren:Go.Shelf.Ren:=⟨fun | 137=>167 | 217=>202 | 266=>217 | n=>n,fun | 9=>9 | 5=>5 | 3=>3 | n=>n,fun | n=>n⟩
theorem Tryz.lays137:Go.Proofs.Lays.n137 Tryz.prog Tryz.lays137_ren:={
 mixed:=by kernel_rfl
 f137:=Tryz.func167.trans (congrArg some (by kernel_rfl))
 f217:=Tryz.func202.trans (congrArg some (by kernel_rfl))
 f266:=Tryz.func217.trans (congrArg some (by kernel_rfl))
 t3:=Tryz.underlying3
 a3:=Tryz.isAgg3
 z3:=Tryz.sizeOf3
 v3:=Tryz.zeroValue3
 t5:=Tryz.underlying5
 a5:=Tryz.isAgg5
 z5:=Tryz.sizeOf5
 v5:=Tryz.zeroValue5
 t9:=Tryz.underlying9
 a9:=Tryz.isAgg9
 z9:=Tryz.sizeOf9
 v9:=Tryz.zeroValue9 }
open Go.RowKit in
theorem Tryz.strings_IndexByte (s:ByteArray) (c:Int) (w:World) :
 Calls Tryz.prog 167 #[.string s,.int .u8 c] w fun e w'=>e=.returned (.int .i64 (Lib.indexByte s.data.toList c.toNat.toUInt8))/\w'=w:=Any.strings_IndexByte Tryz.lays137 s c w
def Tryz.laysM316_ren:Go.Shelf.Ren:=⟨fun | 316=>124 | n=>n,fun | 9=>9 | 3=>3 | 4=>4 | 37=>108 | 0=>0 | 127=>163 | 5=>5 | n=>n,fun | n=>n⟩
theorem Tryz.laysM316:Go.Proofs.LaysM.n316 Tryz.prog Tryz.laysM316_ren:={
 mixed:=by kernel_rfl
 f316:=Tryz.func124.trans (congrArg some (by kernel_rfl))
 t0:=Tryz.underlying0
 a0:=Tryz.isAgg0
 z0:=Tryz.sizeOf0
 v0:=Tryz.zeroValue0
 t3:=Tryz.underlying3
 a3:=Tryz.isAgg3
 z3:=Tryz.sizeOf3
 v3:=Tryz.zeroValue3
 t4:=Tryz.underlying4
 a4:=Tryz.isAgg4
 z4:=Tryz.sizeOf4
 v4:=Tryz.zeroValue4
 t9:=Tryz.underlying9
 a9:=Tryz.isAgg9
 z9:=Tryz.sizeOf9
 v9:=Tryz.zeroValue9
 t37:=Tryz.underlying108
 a37:=Tryz.isAgg108
 z37:=Tryz.sizeOf108
 v37:=Tryz.zeroValue108
 t127:=Tryz.underlying163
 a127:=Tryz.isAgg163
 z127:=Tryz.sizeOf163
 v127:=Tryz.zeroValue163
 t5:=Tryz.underlying5
 a5:=Tryz.isAgg5
 z5:=Tryz.sizeOf5
 v5:=Tryz.zeroValue5
 i0:=by kernel_rfl
 i3:=by kernel_rfl
 i4:=by kernel_rfl
 i5:=by kernel_rfl
 i9:=by kernel_rfl
 i37:=by kernel_rfl
 i127:=by kernel_rfl }
open Go.RowKit in
theorem Tryz.stringslite_Clone (s:ByteArray) (w:World) (hlim:s.size<=281474976710656) :
 Calls Tryz.prog 124 #[.string s] w fun e w'=>e=.returned (.string s)/\Below w.heap.size w w':=Any.stringslite_Clone Tryz.laysM316 s w hlim
def Tryz.lays99_ren:Go.Shelf.Ren:=⟨fun | 99=>135 | 206=>169 | n=>n,fun | 9=>9 | 4=>4 | 3=>3 | n=>n,fun | n=>n⟩
theorem Tryz.lays99:Go.Proofs.Lays.n99 Tryz.prog Tryz.lays99_ren:={
 mixed:=by kernel_rfl
 f99:=Tryz.func135.trans (congrArg some (by kernel_rfl))
 f206:=Tryz.func169.trans (congrArg some (by kernel_rfl))
 t3:=Tryz.underlying3
 a3:=Tryz.isAgg3
 z3:=Tryz.sizeOf3
 v3:=Tryz.zeroValue3
 t4:=Tryz.underlying4
 a4:=Tryz.isAgg4
 z4:=Tryz.sizeOf4
 v4:=Tryz.zeroValue4
 t9:=Tryz.underlying9
 a9:=Tryz.isAgg9
 z9:=Tryz.sizeOf9
 v9:=Tryz.zeroValue9 }
open Go.RowKit Go.Lib in
theorem Tryz.strings_HasPrefix (s p:ByteArray) (w:World) :
 Calls Tryz.prog 135 #[.string s,.string p] w fun e w'=>e=.returned (.bool (Lib.hasPrefix s.data.toList p.data.toList))/\w'=w:=Any.strings_HasPrefix Tryz.lays99 s p w
end Go.Proofs
namespace Go.Proofs.YtbgfkdiihnidaaaGreatDoor
open Go.RowKit
set_option linter.unusedVariables false
theorem int_f {a b:Int} (h:a≠b):(a==b)=false:=by simpa using h
theorem bytes_t {v s:ByteArray} (h:v.data.toList=s.data.toList):(v.toList==s.toList)=true:=by
 rw [Lib.toList_data,Lib.toList_data,h];simp
theorem bytes_f {v s:ByteArray} (h:¬ v.data.toList=s.data.toList):(v.toList==s.toList)=false:=by
 rw [Lib.toList_data,Lib.toList_data];simpa using h
theorem ret_bool {a b:Bool} (h:a=b):Ending.returned (.bool a)=.returned (.bool b):=by rw [h]
def letterB (c:Int):Bool:=decide (97<=c/\c<=122\/65<=c/\c<=90\/c=95)
def digitB (c:Int):Bool:=decide (48<=c/\c<=57)
def namedB (c:Int):Bool:=letterB c || digitB c
def blankB (c:Int):Bool:=decide (c=32\/c=9\/c=10\/c=13)
def feedB (c:Int):Bool:=decide (c≠10)
def shortL:List UInt8:=[40,41,123,125,44,59,61,43,45,42,47,37,38,124,94,33,60,62]
def signB (c:Int):Bool:=decide (0<=Lib.indexByte shortL c.toNat.toUInt8)
theorem b_t {p:Prop} [Decidable p] (h:p):decide p=true:=by simpa using h
theorem b_f {p:Prop} [Decidable p] (h:¬ p):decide p=false:=by simpa using h
theorem letter_any (c:Int) (h0:0<=c) (h1:c<=255) (w:World):Calls Tryz.prog 118 #[.int .u8 c] w fun e w'=>e=.returned (.bool (letterB c))/\w=w':=by
 by_cases h:97<=c/\c<=122
 · have e : letterB c = true := b_t (by omega)
   rw [e];clear e;obtain ⟨f,d⟩:=h;go_enter Tryz.func118,Tryz.ntmps118;go_wp2;go_ret;exact ⟨rfl,rfl⟩
 by_cases h:65<=c/\c<=90
 · have e : letterB c = true := b_t (by omega)
   rw [e];clear e;obtain ⟨f,d⟩:=h;go_enter Tryz.func118,Tryz.ntmps118;go_wp2;go_ret;exact ⟨rfl,rfl⟩
 by_cases h:c=95
 · have e : letterB c = true := b_t (by omega)
   rw [e];clear e;subst h;go_enter Tryz.func118,Tryz.ntmps118;go_wp2;go_ret;exact ⟨rfl,rfl⟩
 by_cases h:c<65
 · have e : letterB c = false := b_f (by omega)
   rw [e];clear e;have q:(c==95)=false:=int_f (by omega)
   go_enter Tryz.func118,Tryz.ntmps118;go_wp2;go_ret;exact ⟨rfl,rfl⟩
 by_cases h:90<c/\c<95
 · have e : letterB c = false := b_f (by omega)
   rw [e];clear e;have q:(c==95)=false:=int_f (by omega)
   have a:decide (c<=90)=false:=b_f (by omega)
   go_enter Tryz.func118,Tryz.ntmps118;go_wp2;go_ret;exact ⟨rfl,rfl⟩
 by_cases h:c=96
 · have e : letterB c = false := b_f (by omega)
   rw [e];clear e;subst h;go_enter Tryz.func118,Tryz.ntmps118;go_wp2;go_ret;exact ⟨rfl,rfl⟩
 · have g : 122 < c := by omega
   have e:letterB c=false:=b_f (by omega)
   have q:(c==95)=false:=int_f (by omega)
   have a:decide (c<=90)=false:=b_f (by omega)
   have b:decide (c<=122)=false:=b_f (by omega)
   rw [e];clear e;go_enter Tryz.func118,Tryz.ntmps118;go_wp2;go_ret;exact ⟨rfl,rfl⟩
theorem digit_any (c:Int) (h0:0<=c) (h1:c<=255) (w:World):Calls Tryz.prog 54 #[.int .u8 c] w fun e w'=>e=.returned (.bool (digitB c))/\w=w':=by
 by_cases k0:c<48
 · have e : digitB c = false := b_f (by omega)
   rw [e];clear e;go_enter Tryz.func54,Tryz.ntmps54;go_wp2;go_ret;exact ⟨rfl,rfl⟩
 · by_cases k1 : 57 < c
   · have e : digitB c = false := b_f (by omega)
     have a:decide (c<=57)=false:=b_f (by omega)
     rw [e];clear e;go_enter Tryz.func54,Tryz.ntmps54;go_wp2;go_ret;exact ⟨rfl,rfl⟩
   · have e : digitB c = true := b_t (by omega)
     rw [e];clear e;go_enter Tryz.func54,Tryz.ntmps54;go_wp2;go_ret;exact ⟨rfl,rfl⟩
theorem named_any (c:Int) (h0:0<=c) (h1:c<=255) (w:World):Calls Tryz.prog 57 #[.int .u8 c] w fun e w'=>e=.returned (.bool (namedB c))/\w=w':=by
 have d:=Hd (fun w=>letter_any c h0 h1 w)
 have i:=Hd (fun w=>digit_any c h0 h1 w)
 obtain ⟨a,g⟩:=Qx (letterB c);obtain ⟨b,f⟩:=Qx (digitB c);have e:namedB c=(a || b):=by rw [g,f];rfl
 rw [<- g] at d;rw [<- f] at i;rw [e];clear g f e;cases a
 · go_enter Tryz.func57, Tryz.ntmps57
   go_wp2_with (first | (go_at_call 118;refine (d.out _).mono ?_;rintro e w' ⟨rfl,rfl⟩) | (go_at_call 54;refine (i.out _).mono ?_;rintro e w' ⟨rfl,rfl⟩))
   go_ret;exact ⟨rfl,rfl⟩
 · go_enter Tryz.func57, Tryz.ntmps57
   go_wp2_with (first | (go_at_call 118;refine (d.out _).mono ?_;rintro e w' ⟨rfl,rfl⟩) | (go_at_call 54;refine (i.out _).mono ?_;rintro e w' ⟨rfl,rfl⟩))
   go_ret;exact ⟨rfl,rfl⟩
theorem blank_any (c:Int) (h0:0<=c) (h1:c<=255) (w:World):Calls Tryz.prog 134 #[.int .u8 c] w fun e w'=>e=.returned (.bool (blankB c))/\w=w':=by
 by_cases k32:c=32
 · subst k32
   have e:blankB 32=true:=b_t (by omega)
   rw [e];clear e;go_enter Tryz.func134,Tryz.ntmps134;go_wp2;go_ret;exact ⟨rfl,rfl⟩
 by_cases k9:c=9
 · subst k9
   have e:blankB 9=true:=b_t (by omega)
   rw [e];clear e;go_enter Tryz.func134,Tryz.ntmps134;go_wp2;go_ret;exact ⟨rfl,rfl⟩
 by_cases k10:c=10
 · subst k10
   have e:blankB 10=true:=b_t (by omega)
   rw [e];clear e;go_enter Tryz.func134,Tryz.ntmps134;go_wp2;go_ret;exact ⟨rfl,rfl⟩
 by_cases k13:c=13
 · subst k13
   have e:blankB 13=true:=b_t (by omega)
   rw [e];clear e;go_enter Tryz.func134,Tryz.ntmps134;go_wp2;go_ret;exact ⟨rfl,rfl⟩
 · have e : blankB c = false := b_f (by omega)
   have b:=int_f k32;have a:=int_f k9;have f:=int_f k10;have d:=int_f k13;rw [e];clear e k32 k9 k10 k13;go_enter Tryz.func134,Tryz.ntmps134;go_wp2;go_ret;exact ⟨rfl,rfl⟩
theorem feed_any (c:Int) (h0:0<=c) (h1:c<=255) (w:World):Calls Tryz.prog 136 #[.int .u8 c] w fun e w'=>e=.returned (.bool (feedB c))/\w=w':=by
 by_cases k:c=10
 · subst k
   have e:feedB 10=false:=b_f (by omega)
   rw [e];clear e;go_enter Tryz.func136,Tryz.ntmps136;go_wp2;go_ret;exact ⟨rfl,rfl⟩
 · have e : feedB c = true := b_t k
   have q:(c != 10)=true:=by simpa using k
   rw [e];clear e k;go_enter Tryz.func136,Tryz.ntmps136;go_wp2;go_ret;exact ⟨rfl,rfl⟩
theorem sign_any (c:Int) (h0:0<=c) (h1:c<=255) (w:World):Calls Tryz.prog 132 #[.int .u8 c] w fun e w'=>e=.returned (.bool (signB c))/\w=w':=by
 have H:=Hd (show ∀ w:World,Calls Tryz.prog 167 #[.string ⟨#[40,41,123,125,44,59,61,43,45,42,47,37,38,124,94,33,60,62]⟩,.int .u8 c] w fun e w'=>e=.returned (.int .i64 (Lib.indexByte shortL c.toNat.toUInt8))/\w'=w from fun w=>Go.Proofs.Tryz.strings_IndexByte _ c w)
 unfold signB;obtain ⟨v,a⟩:=Qx (Lib.indexByte shortL c.toNat.toUInt8);rw [<- a] at H ⊢;clear a h0 h1;go_enter Tryz.func132,Tryz.ntmps132;go_wp2_with (go_at_call 167;refine (H.out _).mono ?_;rintro e w' ⟨rfl,rfl⟩);go_ret;exact ⟨rfl,rfl⟩
def spanN (p:Int->Bool):List UInt8->Nat
 | []=>0
 | c::r=>if p (c.toNat:Int)=true then spanN p r+1 else 0
theorem spanN_le (p:Int->Bool):∀ l:List UInt8,spanN p l<=l.length
 | []=>Nat.le_refl _
 | c :: r => by
   simp only [spanN,List.length_cons]
   have:=spanN_le p r
   split <;> omega
def bytesFrom (s:ByteArray) (n:Nat):List UInt8:=s.data.toList.drop n
theorem from_at (s:ByteArray) (k:Nat) (h:k<s.size):bytesFrom s k=s[k]::bytesFrom s (k+1):=by
 unfold bytesFrom;rw [List.drop_eq_getElem_cons (by simpa using h)];rfl
theorem from_end (s:ByteArray) (k:Nat) (h:s.size<=k):bytesFrom s k=[]:=List.drop_of_length_le (by simpa using h)
theorem from_nought (s:ByteArray):bytesFrom s 0=s.data.toList:=rfl
theorem span_digit (s:ByteArray) (hs:s.size<=4611686018427387904) (w:World):Calls Tryz.prog 56 #[.string s,.func (.func 54) #[] #[]] w fun e w'=>e=.returned (.int .i64 (spanN digitB s.data.toList))/\w=w':=by
 obtain ⟨R,m⟩:=Qx (spanN digitB s.data.toList);rw [<- m];have p:=Hd m;clear m;go_enter Tryz.func56,Tryz.ntmps56;go_wp2_with fail;go_loop [8] (fun i=>∃ k:Nat,k<=s.size/\i=.int .i64 k/\Hid (spanN digitB (bytesFrom s k)+k=R)) (fun i=>s.size-(intOf i).toNat)
 case atStart=>exact ⟨0,Nat.zero_le _,rfl,p.out.symm⟩
 case round =>
  obtain ⟨k,q,rfl,b⟩:=hrel;by_cases hlt:k<s.size
  · have g := PlainAid.bt_nonneg s k
    have l:=PlainAid.bt_le s k;have j:((s[k]).toNat:Int)=PlainAid.bt s k:=PlainAid.get_bt s k hlt;have a:=from_at s k hlt;obtain ⟨c,n⟩:=Qx (PlainAid.bt s k);have o:∀ h:k<s.size,((s[k]'h).toNat:Int)=c:=fun h=>by rw [n];exact PlainAid.get_bt s k h
    rw [<- n] at j g l;clear n;have H:=Hd (fun w=>digit_any c g l w)
    by_cases hpc:digitB c=true
    · have f : Hid (spanN digitB (bytesFrom s (k + 1)) + (k + 1) = R) := by
       rw [Hid,<- b.out,a];simp only [spanN];rw [j,if_pos hpc];omega
      rw [hpc] at H;clear a j b hpc;go_wp2_with (go_at_call 54;refine (H.out _).mono ?_;rintro e w' ⟨rfl,rfl⟩);go_round
      case rel=>exact ⟨k+1,by omega,by go_num,f⟩
      case measure=>simp [intOf];omega
    · have f : Hid (k = R) := by
       rw [Hid,<- b.out,a];simp only [spanN];rw [j,if_neg hpc];omega
      have d:digitB c=false:=by simpa using hpc
      rw [d] at H;clear a j b hpc d;go_wp2_with (go_at_call 54;refine (H.out _).mono ?_;rintro e w' ⟨rfl,rfl⟩);go_ret;rw [<- f.out];exact ⟨rfl,rfl⟩
  · have f : Hid (s.size = R) := by
     rw [Hid,<- b.out,from_end s k (by omega)];simp only [spanN];omega
    clear b;go_wp2_with fail;go_ret;rw [<- f.out];exact ⟨rfl,rfl⟩
theorem span_named (s:ByteArray) (hs:s.size<=4611686018427387904) (w:World):Calls Tryz.prog 56 #[.string s,.func (.func 57) #[] #[]] w fun e w'=>e=.returned (.int .i64 (spanN namedB s.data.toList))/\w=w':=by
 obtain ⟨R,m⟩:=Qx (spanN namedB s.data.toList);rw [<- m];have p:=Hd m;clear m;go_enter Tryz.func56,Tryz.ntmps56;go_wp2_with fail;go_loop [8] (fun i=>∃ k:Nat,k<=s.size/\i=.int .i64 k/\Hid (spanN namedB (bytesFrom s k)+k=R)) (fun i=>s.size-(intOf i).toNat)
 case atStart=>exact ⟨0,Nat.zero_le _,rfl,p.out.symm⟩
 case round =>
  obtain ⟨k,q,rfl,b⟩:=hrel;by_cases hlt:k<s.size
  · have g := PlainAid.bt_nonneg s k
    have l:=PlainAid.bt_le s k;have j:((s[k]).toNat:Int)=PlainAid.bt s k:=PlainAid.get_bt s k hlt;have a:=from_at s k hlt;obtain ⟨c,n⟩:=Qx (PlainAid.bt s k);have o:∀ h:k<s.size,((s[k]'h).toNat:Int)=c:=fun h=>by rw [n];exact PlainAid.get_bt s k h
    rw [<- n] at j g l;clear n;have H:=Hd (fun w=>named_any c g l w)
    by_cases hpc:namedB c=true
    · have f : Hid (spanN namedB (bytesFrom s (k + 1)) + (k + 1) = R) := by
       rw [Hid,<- b.out,a];simp only [spanN];rw [j,if_pos hpc];omega
      rw [hpc] at H;clear a j b hpc;go_wp2_with (go_at_call 57;refine (H.out _).mono ?_;rintro e w' ⟨rfl,rfl⟩);go_round
      case rel=>exact ⟨k+1,by omega,by go_num,f⟩
      case measure=>simp [intOf];omega
    · have f : Hid (k = R) := by
       rw [Hid,<- b.out,a];simp only [spanN];rw [j,if_neg hpc];omega
      have d:namedB c=false:=by simpa using hpc
      rw [d] at H;clear a j b hpc d;go_wp2_with (go_at_call 57;refine (H.out _).mono ?_;rintro e w' ⟨rfl,rfl⟩);go_ret;rw [<- f.out];exact ⟨rfl,rfl⟩
  · have f : Hid (s.size = R) := by
     rw [Hid,<- b.out,from_end s k (by omega)];simp only [spanN];omega
    clear b;go_wp2_with fail;go_ret;rw [<- f.out];exact ⟨rfl,rfl⟩
theorem span_blank (s:ByteArray) (hs:s.size<=4611686018427387904) (w:World):Calls Tryz.prog 56 #[.string s,.func (.func 134) #[] #[]] w fun e w'=>e=.returned (.int .i64 (spanN blankB s.data.toList))/\w=w':=by
 obtain ⟨R,m⟩:=Qx (spanN blankB s.data.toList);rw [<- m];have p:=Hd m;clear m;go_enter Tryz.func56,Tryz.ntmps56;go_wp2_with fail;go_loop [8] (fun i=>∃ k:Nat,k<=s.size/\i=.int .i64 k/\Hid (spanN blankB (bytesFrom s k)+k=R)) (fun i=>s.size-(intOf i).toNat)
 case atStart=>exact ⟨0,Nat.zero_le _,rfl,p.out.symm⟩
 case round =>
  obtain ⟨k,q,rfl,b⟩:=hrel;by_cases hlt:k<s.size
  · have g := PlainAid.bt_nonneg s k
    have l:=PlainAid.bt_le s k;have j:((s[k]).toNat:Int)=PlainAid.bt s k:=PlainAid.get_bt s k hlt;have a:=from_at s k hlt;obtain ⟨c,n⟩:=Qx (PlainAid.bt s k);have o:∀ h:k<s.size,((s[k]'h).toNat:Int)=c:=fun h=>by rw [n];exact PlainAid.get_bt s k h
    rw [<- n] at j g l;clear n;have H:=Hd (fun w=>blank_any c g l w)
    by_cases hpc:blankB c=true
    · have f : Hid (spanN blankB (bytesFrom s (k + 1)) + (k + 1) = R) := by
       rw [Hid,<- b.out,a];simp only [spanN];rw [j,if_pos hpc];omega
      rw [hpc] at H;clear a j b hpc;go_wp2_with (go_at_call 134;refine (H.out _).mono ?_;rintro e w' ⟨rfl,rfl⟩);go_round
      case rel=>exact ⟨k+1,by omega,by go_num,f⟩
      case measure=>simp [intOf];omega
    · have f : Hid (k = R) := by
       rw [Hid,<- b.out,a];simp only [spanN];rw [j,if_neg hpc];omega
      have d:blankB c=false:=by simpa using hpc
      rw [d] at H;clear a j b hpc d;go_wp2_with (go_at_call 134;refine (H.out _).mono ?_;rintro e w' ⟨rfl,rfl⟩);go_ret;rw [<- f.out];exact ⟨rfl,rfl⟩
  · have f : Hid (s.size = R) := by
     rw [Hid,<- b.out,from_end s k (by omega)];simp only [spanN];omega
    clear b;go_wp2_with fail;go_ret;rw [<- f.out];exact ⟨rfl,rfl⟩
theorem span_feed (s:ByteArray) (hs:s.size<=4611686018427387904) (w:World):Calls Tryz.prog 56 #[.string s,.func (.func 136) #[] #[]] w fun e w'=>e=.returned (.int .i64 (spanN feedB s.data.toList))/\w=w':=by
 obtain ⟨R,m⟩:=Qx (spanN feedB s.data.toList);rw [<- m];have p:=Hd m;clear m;go_enter Tryz.func56,Tryz.ntmps56;go_wp2_with fail;go_loop [8] (fun i=>∃ k:Nat,k<=s.size/\i=.int .i64 k/\Hid (spanN feedB (bytesFrom s k)+k=R)) (fun i=>s.size-(intOf i).toNat)
 case atStart=>exact ⟨0,Nat.zero_le _,rfl,p.out.symm⟩
 case round =>
  obtain ⟨k,q,rfl,b⟩:=hrel;by_cases hlt:k<s.size
  · have g := PlainAid.bt_nonneg s k
    have l:=PlainAid.bt_le s k;have j:((s[k]).toNat:Int)=PlainAid.bt s k:=PlainAid.get_bt s k hlt;have a:=from_at s k hlt;obtain ⟨c,n⟩:=Qx (PlainAid.bt s k);have o:∀ h:k<s.size,((s[k]'h).toNat:Int)=c:=fun h=>by rw [n];exact PlainAid.get_bt s k h
    rw [<- n] at j g l;clear n;have H:=Hd (fun w=>feed_any c g l w)
    by_cases hpc:feedB c=true
    · have f : Hid (spanN feedB (bytesFrom s (k + 1)) + (k + 1) = R) := by
       rw [Hid,<- b.out,a];simp only [spanN];rw [j,if_pos hpc];omega
      rw [hpc] at H;clear a j b hpc;go_wp2_with (go_at_call 136;refine (H.out _).mono ?_;rintro e w' ⟨rfl,rfl⟩);go_round
      case rel=>exact ⟨k+1,by omega,by go_num,f⟩
      case measure=>simp [intOf];omega
    · have f : Hid (k = R) := by
       rw [Hid,<- b.out,a];simp only [spanN];rw [j,if_neg hpc];omega
      have d:feedB c=false:=by simpa using hpc
      rw [d] at H;clear a j b hpc d;go_wp2_with (go_at_call 136;refine (H.out _).mono ?_;rintro e w' ⟨rfl,rfl⟩);go_ret;rw [<- f.out];exact ⟨rfl,rfl⟩
  · have f : Hid (s.size = R) := by
     rw [Hid,<- b.out,from_end s k (by omega)];simp only [spanN];omega
    clear b;go_wp2_with fail;go_ret;rw [<- f.out];exact ⟨rfl,rfl⟩
def levelOf (o:Int):Int:=if 19<=o then 0 else lev.getD o.toNat 0
theorem level_any (o:Int) (h0:0<=o) (h1:o<=255) (w:World) (T:Tabs w) :
 Calls Tryz.prog 68 #[.int .u8 o] w fun e w'=>e=.returned (.int .i64 (levelOf o))/\w=w':=by
 by_cases h:19<=o
 · have a : levelOf o = 0 := by unfold levelOf; rw [if_pos h]
   rw [a];clear a;go_enter Tryz.func68,Tryz.ntmps68;go_wp2;go_ret;exact ⟨rfl,rfl⟩
 · have c := T.lev o.toNat (by omega)
   have a:levelOf o=lev.getD o.toNat 0:=by unfold levelOf;rw [if_neg h]
   rw [a];clear a;obtain ⟨v,b⟩:=Qx (lev.getD o.toNat 0);rw [<- b] at c ⊢;clear b T;go_enter Tryz.func68,Tryz.ntmps68;go_wp2;go_ret;exact ⟨rfl,rfl⟩
theorem two_yes (o:Int) (h0:0<=o) (h1:o<=255) (hl:0<levelOf o) (hh:levelOf o<9) (w:World) (T:Tabs w) :
 Calls Tryz.prog 32 #[.int .u8 o] w fun e w'=>e=.returned (.bool true)/\w=w':=by
 have H:=Hd (level_any o h0 h1 w T);obtain ⟨v,a⟩:=Qx (levelOf o);rw [<- a] at hl hh H;clear a T h0 h1;go_enter Tryz.func32,Tryz.ntmps32;go_wp2_with (go_at_call 68;refine (H.out).mono ?_;rintro e w' ⟨rfl,rfl⟩);go_ret;exact ⟨rfl,rfl⟩
theorem two_no (o:Int) (h0:0<=o) (h1:o<=255) (hl:levelOf o=0\/levelOf o=9) (w:World) (T:Tabs w) :
 Calls Tryz.prog 32 #[.int .u8 o] w fun e w'=>e=.returned (.bool false)/\w=w':=by
 have H:=Hd (level_any o h0 h1 w T);clear T h0 h1;rcases hl with hl | hl
 all_goals
  rw [hl] at H;clear hl;go_enter Tryz.func32,Tryz.ntmps32;go_wp2_with (go_at_call 68;refine (H.out).mono ?_;rintro e w' ⟨rfl,rfl⟩);go_ret;exact ⟨rfl,rfl⟩
def signOf (o:Int):List UInt8:=if 19<=o then [] else sgn.getD o.toNat []
def sgnAt (k:Nat):List UInt8:=sgn.getD k []
def fndFrom (l:List UInt8):Nat->Nat->Int × Bool
 | 0,_=>(0,false)
 | n+1,k=>if sgnAt k=l then ((k:Int),true) else fndFrom l n (k+1)
def fnd (l:List UInt8):Int × Bool:=fndFrom l 16 1
theorem fnd_step {l:List UInt8} {k:Nat} (h0:1<=k) (h1:k<=16) (hp:fndFrom l (17-k) k=fnd l) (hn:sgnAt k≠l):fndFrom l (17-(k+1)) (k+1)=fnd l:=by
 rw [<- hp,show 17-k=(17-(k+1))+1 by omega]
 simp only [fndFrom];rw [if_neg hn]
theorem fnd_hit {l:List UInt8} {k:Nat} (h0:1<=k) (h1:k<=16) (hp:fndFrom l (17-k) k=fnd l) (hn:sgnAt k=l):fnd l=((k:Int),true):=by
 rw [<- hp,show 17-k=(17-(k+1))+1 by omega]
 simp only [fndFrom];rw [if_pos hn]
theorem Tabs.drewN {w:World} (T:Tabs w) (n:Nat):Tabs (w.drewN n):=T.below (Nat.le_refl _) ⟨rfl,rfl,rfl,Nat.le_refl _,fun _ _=>rfl⟩
theorem found_yes (b:Nat) (k:Nat) (s v:ByteArray) (w:World) (T:Tabs w) (h1:1<=k) (h2:k<=16) (hc:w.cell? ⟨b,0,none⟩=some (.string s)) (hv:w.cell? ⟨5,k,none⟩=some (.string v)) :
 Calls Tryz.prog 205 #[.int .u8 (k:Int),.pointer (some ⟨b,0,none⟩)] w fun e w'=>e=.returned (.bool (v.toList==s.toList))/\∃ n,w'=w.drewN n:=by
 have d:0<levelOf (k:Int)/\levelOf (k:Int)<9:=by
  have:k=1\/k=2\/k=3\/k=4\/k=5\/k=6\/k=7\/k=8\/k=9\/k=10\/k=11\/k=12\/k=13\/k=14\/k=15\/k=16:=by omega
  rcases this with rfl | rfl | rfl | rfl | rfl | rfl | rfl | rfl | rfl | rfl | rfl | rfl | rfl | rfl | rfl | rfl <;> decide
 have f:∀ W:World,Tabs W->Calls Tryz.prog 32 #[.int .u8 (k:Int)] W fun e w'=>e=.returned (.bool true)/\w'=W:=fun W TW =>
  (two_yes (k:Int) (by omega) (by omega) d.1 d.2 W TW).mono fun _ _ ⟨a,c⟩=>⟨a,c.symm⟩
 have g:=Hd f;clear f d;go_enter Tryz.func205,Tryz.ntmps205;go_wp2;go_quiet ((go_at_call 32;exact Calls.quiet_of_same (g.out _ (T.drewN _))));go_wp2;go_ret;exact ⟨rfl,_,rfl⟩
theorem found_no (b:Nat) (k:Nat) (w:World) (T:Tabs w) (h:k=0\/k=17\/k=18) :
 Calls Tryz.prog 205 #[.int .u8 (k:Int),.pointer (some ⟨b,0,none⟩)] w fun e w'=>e=.returned (.bool false)/\∃ n,w'=w.drewN n:=by
 have d:levelOf (k:Int)=0\/levelOf (k:Int)=9:=by
  rcases h with rfl | rfl | rfl <;> decide
 have f:∀ W:World,Tabs W->Calls Tryz.prog 32 #[.int .u8 (k:Int)] W fun e w'=>e=.returned (.bool false)/\w'=W:=fun W TW =>
  (two_no (k:Int) (by omega) (by omega) d W TW).mono fun _ _ ⟨a,c⟩=>⟨a,c.symm⟩
 have g:=Hd f;clear f d h;go_enter Tryz.func205,Tryz.ntmps205;go_wp2;go_quiet ((go_at_call 32;exact Calls.quiet_of_same (g.out _ (T.drewN _))));go_wp2;go_ret;exact ⟨rfl,_,rfl⟩
def FP (l:List UInt8) (k:Nat):Prop:=(1<=k->k<=17->fndFrom l (17-k) k=fnd l)/\(17<=k->fnd l=(0,false))
theorem below_drewN {B:Nat} {a w:World} (h:Below B a w) (n:Nat):Below B a (w.drewN n):=⟨h.os,h.tape,h.output,h.size,h.block⟩
theorem find_any (s:ByteArray) (w:World) (T:Tabs w):Calls Tryz.prog 178 #[.string s] w fun e w'=>e=.returned (.tuple #[.int .u8 (fnd s.data.toList).1,.bool (fnd s.data.toList).2])/\Below w.heap.size w w':=by
 obtain ⟨R,q⟩:=Qx (fnd s.data.toList);rw [<- q];have x:=Hd q;clear q;have p:Below w.heap.size w (w.alloc (.cells #[.string s] 9)):=(Below.refl _ _).alloc (Nat.le_refl _) _;have y:=T.below (Nat.le_refl _) p;clear T;go_enter Tryz.func178,Tryz.ntmps178;go_wp2_with fail;go_loopw [7] (fun o wr=>∃ k:Nat,k<=19/\o=.int .u8 k/\FP s.data.toList k/\wr.cell? ⟨w.heap.size,0,none⟩=some (.string s)/\Tabs wr/\Below w.heap.size w wr) (fun o _=>19-(intOf o).toNat)
 case atStart=>exact ⟨0,by omega,rfl,⟨fun h=>by omega,fun h=>by omega⟩,cell_of_row _ _ 0 _ _ _ (heap_alloc_new _ _),y,p⟩
 case round =>
  obtain ⟨k,A,rfl,f,r,T,j⟩:=hrel;clear y p;have z:=j.size;by_cases hk19:k<19
  · by_cases hin : 1 <= k /\ k <= 16
    · obtain ⟨v, m⟩ : ∃ v : ByteArray, v = ⟨(sgn.getD k []).toArray⟩ := ⟨_, rfl⟩
      have d:=T.sgn k hk19;rw [<- m] at d;have c:v.data.toList=sgnAt k:=by rw [m];rfl
      have b:=f.1 hin.1 (by omega)
      have H:=Hd (found_yes w.heap.size k s v wr T hin.1 hin.2 r d);clear m d;by_cases he:v.data.toList=s.data.toList
      · have a : Hid (R = ((k : Int), true)) := by rw [Hid, x.out, fnd_hit hin.1 hin.2 b (c.symm.trans he)]
        have l:(v.toList==s.toList)=true:=bytes_t he;rw [l] at H;clear c he f b hin l;go_wp2_with (go_at_call 205;refine (H.out).mono ?_;rintro e t ⟨rfl,n,rfl⟩);go_ret2;rw [a.out];exact ⟨rfl,below_drewN j _⟩
      · have g : FP s.data.toList (k + 1) := by
         have i:=fnd_step hin.1 hin.2 b (fun h=>he (c.trans h))
         refine ⟨fun _ _=>i,fun h=>?_⟩
         obtain rfl:k=16:=by omega
         exact i.symm
        have l:(v.toList==s.toList)=false:=bytes_f he;rw [l] at H;clear c he f b hin l;go_wp2_with (go_at_call 205;refine (H.out).mono ?_;rintro e t ⟨rfl,n,rfl⟩);go_roundw
        case rel=>exact ⟨k+1,by omega,by go_num,g,r,T.drewN _,below_drewN j _⟩
        case measure=>simp [intOf];omega
    · have H := Hd (found_no w.heap.size k wr T (by omega))
      have g:FP s.data.toList (k+1):=by
       refine ⟨fun _ h=>?_,fun h=>f.2 (by omega)⟩
       obtain rfl:k=0:=by omega
       rfl
      clear f hin;go_wp2_with (go_at_call 205;refine (H.out).mono ?_;rintro e t ⟨rfl,n,rfl⟩);go_roundw
      case rel=>exact ⟨k+1,by omega,by go_num,g,r,T.drewN _,below_drewN j _⟩
      case measure=>simp [intOf];omega
  · have a : Hid (R = (0, false)) := by rw [Hid, x.out, f.2 (by omega)]
    clear f;go_wp2_with fail;go_ret2;rw [a.out];exact ⟨rfl,j⟩
theorem show_any (o:Int) (h0:0<=o) (h1:o<=255) (w:World) (T:Tabs w) :
 Calls Tryz.prog 207 #[.int .u8 o] w fun e w'=>e=.returned (.string ⟨(signOf o).toArray⟩)/\w=w':=by
 by_cases h:19<=o
 · have a : signOf o = [] := by unfold signOf; rw [if_pos h]
   rw [a];clear a;go_enter Tryz.func207,Tryz.ntmps207;go_wp2;go_ret;exact ⟨rfl,rfl⟩
 · have c := T.sgn o.toNat (by omega)
   have a:signOf o=sgn.getD o.toNat []:=by unfold signOf;rw [if_neg h]
   rw [a];clear a;obtain ⟨v,b⟩:∃ v:ByteArray,v=⟨(sgn.getD o.toNat []).toArray⟩:=⟨_,rfl⟩;rw [<- b] at c ⊢;clear b T;go_enter Tryz.func207,Tryz.ntmps207;go_wp2;go_ret;exact ⟨rfl,rfl⟩
set_option maxRecDepth 100000
def opsCells:Array Value:=#[.nilFunc,.nilFunc,.func (.func 69) #[] #[],.nilFunc,.func (.func 70) #[] #[],.nilFunc,.func (.func 71) #[] #[],.nilFunc,.func (.func 72) #[] #[],.nilFunc,.func (.func 73) #[] #[],.nilFunc,.func (.func 74) #[] #[],.nilFunc,.func (.func 75) #[] #[],.nilFunc,.func (.func 76) #[] #[],.nilFunc,.func (.func 77) #[] #[],.nilFunc,.func (.func 78) #[] #[],.nilFunc,.func (.func 79) #[] #[],.nilFunc,.func (.func 81) #[] #[],.nilFunc,.func (.func 82) #[] #[],.nilFunc,.func (.func 83) #[] #[],.nilFunc,.func (.func 84) #[] #[],.nilFunc,.func (.func 85) #[] #[],.nilFunc,.nilFunc,.func (.func 86) #[] #[],.nilFunc,.func (.func 87) #[] #[]]
def opsV:Value:=.agg opsCells
theorem below_setRow {B:Nat} {a w:World} (h:Below B a w) {g:Nat} (hg:B<=g) (cs:Array Value):Below B a (w.setRow g cs) :=
 h.trans ⟨rfl,rfl,rfl,by simp,fun k hk=>by
  simp only [World.setRow,Array.getElem?_modify]
  rw [if_neg (by omega)]⟩
theorem ops_any (w:World) :
 Calls Tryz.prog 33 #[] w fun e w'=>e=.returned opsV/\Below w.heap.size w w':=by
 go_enter Tryz.func33,Tryz.ntmps33;go_wp2_with (refine wpList_store_row rfl 82 _ _ rfl w.heap.size opsCells rfl rfl 82 _ (heap_alloc_new w _) (by kernel_rfl) rfl (by kernel_rfl) ?_)
 refine bodyPost_ret (v:=opsV) (results_cell_row rfl _ _ w.heap.size 82 opsCells (0,0) _ rfl (setRow_heap _ _ _ _ _ _ (heap_alloc_new w _)) Tryz.underlying82 rfl (by kernel_rfl)) rfl ?_
 exact ⟨rfl,below_setRow ((Below.refl _ _).alloc (Nat.le_refl _) _) (Nat.le_refl _) _⟩
def bit (b:Bool):Int:=if b then 1 else 0
theorem truth_any (b:Bool) (w:World):Calls Tryz.prog 80 #[.bool b] w fun e w'=>e=.returned (.int .i64 (bit b))/\w=w':=by
 cases b
 · go_enter Tryz.func80, Tryz.ntmps80
   go_wp2;go_ret;exact ⟨rfl,rfl⟩
 · go_enter Tryz.func80, Tryz.ntmps80
   go_wp2;go_ret;exact ⟨rfl,rfl⟩
theorem minus1_any (a:Int) (w:World):Calls Tryz.prog 86 #[.int .i64 a] w fun e w'=>e=.returned (.int .i64 (wrap64 (-a)))/\w=w':=by
 go_enter Tryz.func86,Tryz.ntmps86;go_wp2;go_ret;exact ⟨rfl,rfl⟩
theorem not1_any (a:Int) (w:World):Calls Tryz.prog 87 #[.int .i64 a] w fun e w'=>e=.returned (.int .i64 (bit (a==0)))/\w=w':=by
 go_enter Tryz.func87,Tryz.ntmps87;go_wp2_with (go_at_call 80;refine (truth_any _ _).mono ?_;rintro e w' ⟨rfl,rfl⟩);go_ret;exact ⟨rfl,rfl⟩
theorem one17 (a:Int) (w:World) (T:Tabs w):Calls Tryz.prog 206 #[.int .u8 17,.int .i64 a] w fun e w'=>e=.returned (.tuple #[.int .i64 (wrap64 (-a)),.int .i64 0])/\Below w.heap.size w w':=by
 have f:=Hd (show Calls Tryz.prog 68 #[.int .u8 17] w fun e w'=>e=.returned (.int .i64 9)/\w=w' from level_any 17 (by decide) (by decide) w T)
 have c:∀ w,(Instr.index 82 opsV (.int .u8 17)).run Tryz.prog w=.ok (.agg #[.nilFunc,.func (.func 86) #[] #[]]) w:=fun _=>by kernel_rfl
 have b:∀ w,(Instr.field 81 (.agg #[.nilFunc,.func (.func 86) #[] #[]]) 1).run Tryz.prog w=.ok (.func (.func 86) #[] #[]) w:=fun _=>by kernel_rfl
 clear T;go_enter Tryz.func206,Tryz.ntmps206;go_wp2_with (first | (go_at_call 68;refine (f.out).mono ?_;rintro e w' ⟨rfl,rfl⟩) | (go_at_call 33;refine (ops_any _).mono ?_;rintro e g ⟨rfl,d⟩) | (go_at_call 86;refine (minus1_any _ _).mono ?_;rintro e w' ⟨rfl,rfl⟩))
 go_ret2;exact ⟨rfl,d⟩
theorem one18 (a:Int) (w:World) (T:Tabs w):Calls Tryz.prog 206 #[.int .u8 18,.int .i64 a] w fun e w'=>e=.returned (.tuple #[.int .i64 (bit (a==0)),.int .i64 0])/\Below w.heap.size w w':=by
 have f:=Hd (show Calls Tryz.prog 68 #[.int .u8 18] w fun e w'=>e=.returned (.int .i64 9)/\w=w' from level_any 18 (by decide) (by decide) w T)
 have c:∀ w,(Instr.index 82 opsV (.int .u8 18)).run Tryz.prog w=.ok (.agg #[.nilFunc,.func (.func 87) #[] #[]]) w:=fun _=>by kernel_rfl
 have b:∀ w,(Instr.field 81 (.agg #[.nilFunc,.func (.func 87) #[] #[]]) 1).run Tryz.prog w=.ok (.func (.func 87) #[] #[]) w:=fun _=>by kernel_rfl
 clear T;go_enter Tryz.func206,Tryz.ntmps206;go_wp2_with (first | (go_at_call 68;refine (f.out).mono ?_;rintro e w' ⟨rfl,rfl⟩) | (go_at_call 33;refine (ops_any _).mono ?_;rintro e g ⟨rfl,d⟩) | (go_at_call 87;refine (not1_any _ _).mono ?_;rintro e w' ⟨rfl,rfl⟩))
 go_ret2;exact ⟨rfl,d⟩
theorem one_no (o a:Int) (h0:0<=o) (h1:o<=255) (hl:o≠17) (hl2:o≠18) (w:World) (T:Tabs w):Calls Tryz.prog 206 #[.int .u8 o,.int .i64 a] w fun e w'=>e=.returned (.tuple #[.int .i64 0,.int .i64 2])/\w=w':=by
 have b:(levelOf o != 9)=true:=by
  by_cases h:19<=o
  · unfold levelOf;rw [if_pos h];rfl
  · have : o = 0 \/ o = 1 \/ o = 2 \/ o = 3 \/ o = 4 \/ o = 5 \/ o = 6 \/ o = 7 \/ o = 8 \/ o = 9 \/ o = 10 \/ o = 11 \/ o = 12 \/ o = 13 \/ o = 14 \/ o = 15 \/ o = 16 := by omega
    rcases this with rfl | rfl | rfl | rfl | rfl | rfl | rfl | rfl | rfl | rfl | rfl | rfl | rfl | rfl | rfl | rfl | rfl <;> rfl
 have d:=Hd (level_any o h0 h1 w T);obtain ⟨v,c⟩:=Qx (levelOf o);rw [<- c] at b d;clear c T h0 h1 hl hl2;go_enter Tryz.func206,Tryz.ntmps206;go_wp2_with (go_at_call 68;refine (d.out).mono ?_;rintro e w' ⟨rfl,rfl⟩);go_ret2;exact ⟨rfl,rfl⟩
def oneB (o:Int):Bool:=o==17 || o==18
theorem oneOp_any (o:Int) (h0:0<=o) (h1:o<=255) (w:World) (T:Tabs w):Calls Tryz.prog 206 #[.int .u8 o,.int .i64 0] w fun e w'=>(∃ x,e=.returned (.tuple #[.int .i64 x,.int .i64 (if oneB o then 0 else 2)]))/\Below w.heap.size w w':=by
 by_cases h17:o=17
 · subst h17;exact (one17 0 w T).mono fun e w' ⟨he,hb⟩=>⟨⟨_,he⟩,hb⟩
 · by_cases h18 : o = 18
   · subst h18;exact (one18 0 w T).mono fun e w' ⟨he,hb⟩=>⟨⟨_,he⟩,hb⟩
   · exact (one_no o 0 h0 h1 h17 h18 w T).mono fun e w' ⟨he,hb⟩=>⟨⟨0,by rw [he];simp [oneB,h17,h18]⟩,by rw [<- hb];exact Below.refl _ _⟩
theorem var_heap {P:Program} {w:World} {n:String} {g:Nat} {cs:Array Value} (hg:P.globalNamed n=some g) (h:w.var? P n=some cs):∃ t fr,w.heap[g]? = some (.cells cs t fr):=by
 simp only [World.var?,hg,Option.bind_some] at h;split at h
 · rename_i c e fr he
   simp only [Option.some.injEq] at h;subst h;exact ⟨_,_,he⟩
 · cases h
def wordAt (k:Nat):ByteArray:=⟨(wordsL.getD k []).toArray⟩
def longAt (k:Nat):ByteArray:=⟨(longL.getD k []).toArray⟩
def wordB (s:ByteArray):Bool:=(wordAt 0).toList==s.toList || (wordAt 1).toList==s.toList || (wordAt 2).toList==s.toList || (wordAt 3).toList==s.toList || (wordAt 4).toList==s.toList || (wordAt 5).toList==s.toList || (wordAt 6).toList==s.toList || (wordAt 7).toList==s.toList || (wordAt 8).toList==s.toList || (wordAt 9).toList==s.toList
theorem word_any (s:ByteArray) (w:World) (T:LTabs w):Calls Tryz.prog 55 #[.string s] w fun e w'=>e=.returned (.bool (wordB s))/\w=w':=by
 obtain ⟨a,fr,b⟩:=var_heap gWords T.words;have d:∀ w,(Instr.index 169 (.agg wordCells) (.int .i64 0)).run Tryz.prog w=.ok (.string (wordAt 0)) w:=fun _=>by kernel_rfl
 have n:∀ w,(Instr.index 169 (.agg wordCells) (.int .i64 1)).run Tryz.prog w=.ok (.string (wordAt 1)) w:=fun _=>by kernel_rfl
 have i:∀ w,(Instr.index 169 (.agg wordCells) (.int .i64 2)).run Tryz.prog w=.ok (.string (wordAt 2)) w:=fun _=>by kernel_rfl
 have g:∀ w,(Instr.index 169 (.agg wordCells) (.int .i64 3)).run Tryz.prog w=.ok (.string (wordAt 3)) w:=fun _=>by kernel_rfl
 have l:∀ w,(Instr.index 169 (.agg wordCells) (.int .i64 4)).run Tryz.prog w=.ok (.string (wordAt 4)) w:=fun _=>by kernel_rfl
 have f:∀ w,(Instr.index 169 (.agg wordCells) (.int .i64 5)).run Tryz.prog w=.ok (.string (wordAt 5)) w:=fun _=>by kernel_rfl
 have m:∀ w,(Instr.index 169 (.agg wordCells) (.int .i64 6)).run Tryz.prog w=.ok (.string (wordAt 6)) w:=fun _=>by kernel_rfl
 have j:∀ w,(Instr.index 169 (.agg wordCells) (.int .i64 7)).run Tryz.prog w=.ok (.string (wordAt 7)) w:=fun _=>by kernel_rfl
 have k:∀ w,(Instr.index 169 (.agg wordCells) (.int .i64 8)).run Tryz.prog w=.ok (.string (wordAt 8)) w:=fun _=>by kernel_rfl
 have c:∀ w,(Instr.index 169 (.agg wordCells) (.int .i64 9)).run Tryz.prog w=.ok (.string (wordAt 9)) w:=fun _=>by kernel_rfl
 clear T;go_enter Tryz.func55,Tryz.ntmps55;go_wp2_with (refine wpList_load_row rfl 169 _ rfl 0 rfl a _ fr _ b Tryz.underlying169 rfl (by kernel_rfl) ?_)
 go_rounds 11
 all_goals
  go_ret;exact ⟨ret_bool (by simp [wordB, *]),rfl⟩
def longB (l:List UInt8):Bool:=Lib.hasPrefix l (longAt 0).data.toList || Lib.hasPrefix l (longAt 1).data.toList || Lib.hasPrefix l (longAt 2).data.toList || Lib.hasPrefix l (longAt 3).data.toList || Lib.hasPrefix l (longAt 4).data.toList || Lib.hasPrefix l (longAt 5).data.toList
def firstN (l:List UInt8):Nat:=match l with
 | []=>0
 | c::_=>if signB (c.toNat:Int)=true then 1 else 0
def aheadN (l:List UInt8):Nat:=if longB l=true then 2 else firstN l
theorem ret_int {k:IntKind} {a b:Int} (h:a=b):Ending.returned (.int k a)=.returned (.int k b):=by rw [h]
theorem ahead_none (s:ByteArray) (w:World) (T:LTabs w) (h0:s.size=0):Calls Tryz.prog 168 #[.string s] w fun e w'=>e=.returned (.int .i64 (aheadN s.data.toList))/\w=w':=by
 obtain ⟨A,fr,D⟩:=var_heap gLong T.long;obtain ⟨R,k⟩:=Qx (aheadN s.data.toList);rw [<- k];have J:∀ w,(Instr.index 249 (.agg longCells) (.int .i64 0)).run Tryz.prog w=.ok (.string (longAt 0)) w:=fun _=>by kernel_rfl
 have H:(longAt 0).size=2:=rfl;obtain ⟨p,g⟩:=Qx (Lib.hasPrefix s.data.toList (longAt 0).data.toList);have B:=Hd (show ∀ w:World,Calls Tryz.prog 135 #[.string s,.string (longAt 0)] w fun e w'=>e=.returned (.bool p)/\w'=w from fun w=>by rw [g];exact Go.Proofs.Tryz.strings_HasPrefix s (longAt 0) w)
 have P:∀ w,(Instr.index 249 (.agg longCells) (.int .i64 1)).run Tryz.prog w=.ok (.string (longAt 1)) w:=fun _=>by kernel_rfl
 have I:(longAt 1).size=2:=rfl;obtain ⟨o,c⟩:=Qx (Lib.hasPrefix s.data.toList (longAt 1).data.toList);have x:=Hd (show ∀ w:World,Calls Tryz.prog 135 #[.string s,.string (longAt 1)] w fun e w'=>e=.returned (.bool o)/\w'=w from fun w=>by rw [c];exact Go.Proofs.Tryz.strings_HasPrefix s (longAt 1) w)
 have F:∀ w,(Instr.index 249 (.agg longCells) (.int .i64 2)).run Tryz.prog w=.ok (.string (longAt 2)) w:=fun _=>by kernel_rfl
 have E:(longAt 2).size=2:=rfl;obtain ⟨n,a⟩:=Qx (Lib.hasPrefix s.data.toList (longAt 2).data.toList);have C:=Hd (show ∀ w:World,Calls Tryz.prog 135 #[.string s,.string (longAt 2)] w fun e w'=>e=.returned (.bool n)/\w'=w from fun w=>by rw [a];exact Go.Proofs.Tryz.strings_HasPrefix s (longAt 2) w)
 have L:∀ w,(Instr.index 249 (.agg longCells) (.int .i64 3)).run Tryz.prog w=.ok (.string (longAt 3)) w:=fun _=>by kernel_rfl
 have M:(longAt 3).size=2:=rfl;obtain ⟨q,b⟩:=Qx (Lib.hasPrefix s.data.toList (longAt 3).data.toList);have t:=Hd (show ∀ w:World,Calls Tryz.prog 135 #[.string s,.string (longAt 3)] w fun e w'=>e=.returned (.bool q)/\w'=w from fun w=>by rw [b];exact Go.Proofs.Tryz.strings_HasPrefix s (longAt 3) w)
 have O:∀ w,(Instr.index 249 (.agg longCells) (.int .i64 4)).run Tryz.prog w=.ok (.string (longAt 4)) w:=fun _=>by kernel_rfl
 have N:(longAt 4).size=2:=rfl;obtain ⟨m,f⟩:=Qx (Lib.hasPrefix s.data.toList (longAt 4).data.toList);have v:=Hd (show ∀ w:World,Calls Tryz.prog 135 #[.string s,.string (longAt 4)] w fun e w'=>e=.returned (.bool m)/\w'=w from fun w=>by rw [f];exact Go.Proofs.Tryz.strings_HasPrefix s (longAt 4) w)
 have K:∀ w,(Instr.index 249 (.agg longCells) (.int .i64 5)).run Tryz.prog w=.ok (.string (longAt 5)) w:=fun _=>by kernel_rfl
 have G:(longAt 5).size=2:=rfl;obtain ⟨r,i⟩:=Qx (Lib.hasPrefix s.data.toList (longAt 5).data.toList);have z:=Hd (show ∀ w:World,Calls Tryz.prog 135 #[.string s,.string (longAt 5)] w fun e w'=>e=.returned (.bool r)/\w'=w from fun w=>by rw [i];exact Go.Proofs.Tryz.strings_HasPrefix s (longAt 5) w)
 have j:Hid (R=if (p || o || n || q || m || r)=true then 2 else firstN s.data.toList):=by
  rw [Hid,k,g,c,a,b,f,i];rfl
 clear k g c a b f i T;have y:s=⟨#[]⟩:=by
  cases s with
  | mk d=>have:d.size=0:=h0;simp at this;rw [this]
 subst y;have l:firstN (ByteArray.mk #[]).data.toList=0:=rfl;rw [l] at j;clear h0 l;go_enter Tryz.func168,Tryz.ntmps168;go_wp2_with (refine wpList_load_row rfl 249 _ rfl 4 rfl A _ fr _ D Tryz.underlying249 rfl (by kernel_rfl) ?_)
 refine wp_loop_rounds 7 ?_
 repeat any_goals (rw [rounds_succ];go_wp2_with (first | (go_at_call 135;(with_reducible refine (B.out _).mono ?_);rintro e w' ⟨rfl,rfl⟩) | (go_at_call 135;(with_reducible refine (x.out _).mono ?_);rintro e w' ⟨rfl,rfl⟩) | (go_at_call 135;(with_reducible refine (C.out _).mono ?_);rintro e w' ⟨rfl,rfl⟩) | (go_at_call 135;(with_reducible refine (t.out _).mono ?_);rintro e w' ⟨rfl,rfl⟩) | (go_at_call 135;(with_reducible refine (v.out _).mono ?_);rintro e w' ⟨rfl,rfl⟩) | (go_at_call 135;(with_reducible refine (z.out _).mono ?_);rintro e w' ⟨rfl,rfl⟩)))
 all_goals
  go_ret;refine ⟨ret_int ?_,rfl⟩;rw [j.out];simp [*]
theorem ahead_some (s:ByteArray) (w:World) (T:LTabs w) (h0:0<s.size):Calls Tryz.prog 168 #[.string s] w fun e w'=>e=.returned (.int .i64 (aheadN s.data.toList))/\w=w':=by
 obtain ⟨I,fr,N⟩:=var_heap gLong T.long;obtain ⟨R,r⟩:=Qx (aheadN s.data.toList);rw [<- r];have V:∀ w,(Instr.index 249 (.agg longCells) (.int .i64 0)).run Tryz.prog w=.ok (.string (longAt 0)) w:=fun _=>by kernel_rfl
 have S:(longAt 0).size=2:=rfl;obtain ⟨A,i⟩:=Qx (Lib.hasPrefix s.data.toList (longAt 0).data.toList);have K:=Hd (show ∀ w:World,Calls Tryz.prog 135 #[.string s,.string (longAt 0)] w fun e w'=>e=.returned (.bool A)/\w'=w from fun w=>by rw [i];exact Go.Proofs.Tryz.strings_HasPrefix s (longAt 0) w)
 have i1:∀ w,(Instr.index 249 (.agg longCells) (.int .i64 1)).run Tryz.prog w=.ok (.string (longAt 1)) w:=fun _=>by kernel_rfl
 have U:(longAt 1).size=2:=rfl;obtain ⟨z,f⟩:=Qx (Lib.hasPrefix s.data.toList (longAt 1).data.toList);have G:=Hd (show ∀ w:World,Calls Tryz.prog 135 #[.string s,.string (longAt 1)] w fun e w'=>e=.returned (.bool z)/\w'=w from fun w=>by rw [f];exact Go.Proofs.Tryz.strings_HasPrefix s (longAt 1) w)
 have P:∀ w,(Instr.index 249 (.agg longCells) (.int .i64 2)).run Tryz.prog w=.ok (.string (longAt 2)) w:=fun _=>by kernel_rfl
 have O:(longAt 2).size=2:=rfl;obtain ⟨y,b⟩:=Qx (Lib.hasPrefix s.data.toList (longAt 2).data.toList);have L:=Hd (show ∀ w:World,Calls Tryz.prog 135 #[.string s,.string (longAt 2)] w fun e w'=>e=.returned (.bool y)/\w'=w from fun w=>by rw [b];exact Go.Proofs.Tryz.strings_HasPrefix s (longAt 2) w)
 have X:∀ w,(Instr.index 249 (.agg longCells) (.int .i64 3)).run Tryz.prog w=.ok (.string (longAt 3)) w:=fun _=>by kernel_rfl
 have Y:(longAt 3).size=2:=rfl;obtain ⟨B,d⟩:=Qx (Lib.hasPrefix s.data.toList (longAt 3).data.toList);have E:=Hd (show ∀ w:World,Calls Tryz.prog 135 #[.string s,.string (longAt 3)] w fun e w'=>e=.returned (.bool B)/\w'=w from fun w=>by rw [d];exact Go.Proofs.Tryz.strings_HasPrefix s (longAt 3) w)
 have i4:∀ w,(Instr.index 249 (.agg longCells) (.int .i64 4)).run Tryz.prog w=.ok (.string (longAt 4)) w:=fun _=>by kernel_rfl
 have Z:(longAt 4).size=2:=rfl;obtain ⟨x,g⟩:=Qx (Lib.hasPrefix s.data.toList (longAt 4).data.toList);have F:=Hd (show ∀ w:World,Calls Tryz.prog 135 #[.string s,.string (longAt 4)] w fun e w'=>e=.returned (.bool x)/\w'=w from fun w=>by rw [g];exact Go.Proofs.Tryz.strings_HasPrefix s (longAt 4) w)
 have W:∀ w,(Instr.index 249 (.agg longCells) (.int .i64 5)).run Tryz.prog w=.ok (.string (longAt 5)) w:=fun _=>by kernel_rfl
 have Q:(longAt 5).size=2:=rfl;obtain ⟨D,j⟩:=Qx (Lib.hasPrefix s.data.toList (longAt 5).data.toList);have H:=Hd (show ∀ w:World,Calls Tryz.prog 135 #[.string s,.string (longAt 5)] w fun e w'=>e=.returned (.bool D)/\w'=w from fun w=>by rw [j];exact Go.Proofs.Tryz.strings_HasPrefix s (longAt 5) w)
 have m:Hid (R=if (A || z || y || B || x || D)=true then 2 else firstN s.data.toList):=by
  rw [Hid,r,i,f,b,d,g,j];rfl
 clear r i f b d g j T;have o:=PlainAid.get_bt s;have k:=PlainAid.bt_nonneg s 0;have n:=PlainAid.bt_le s 0;obtain ⟨c,t⟩:=Qx (PlainAid.bt s 0);rw [<- t] at k n;have l:∀ h:0<s.size,((s[0]'h).toNat:Int)=c:=fun h=>by rw [t];exact PlainAid.get_bt s 0 h
 have a:s.data.toList=s[0]::bytesFrom s 1:=from_at s 0 h0;obtain ⟨q,p⟩:=Qx (signB c);have v:firstN s.data.toList=if q=true then 1 else 0:=by
  rw [a,p,<- l h0];rfl
 rw [v] at m;have J:s.toList.isEmpty=false:=by rw [Lib.toList_data,a];rfl
 have C:¬ s.toList=[]:=by rw [Lib.toList_data,a];simp
 have M:=Hd (show ∀ w:World,Calls Tryz.prog 132 #[.int .u8 c] w fun e w'=>e=.returned (.bool q)/\w=w' from fun w=>by rw [p];exact sign_any c k n w)
 clear v a o p t;go_enter Tryz.func168,Tryz.ntmps168;go_wp2_with (refine wpList_load_row rfl 249 _ rfl 4 rfl I _ fr _ N Tryz.underlying249 rfl (by kernel_rfl) ?_)
 refine wp_loop_rounds 7 ?_
 repeat any_goals (rw [rounds_succ];go_wp2_with (first | (go_at_call 135;(with_reducible refine (K.out _).mono ?_);rintro e w' ⟨rfl,rfl⟩) | (go_at_call 135;(with_reducible refine (G.out _).mono ?_);rintro e w' ⟨rfl,rfl⟩) | (go_at_call 135;(with_reducible refine (L.out _).mono ?_);rintro e w' ⟨rfl,rfl⟩) | (go_at_call 135;(with_reducible refine (E.out _).mono ?_);rintro e w' ⟨rfl,rfl⟩) | (go_at_call 135;(with_reducible refine (F.out _).mono ?_);rintro e w' ⟨rfl,rfl⟩) | (go_at_call 135;(with_reducible refine (H.out _).mono ?_);rintro e w' ⟨rfl,rfl⟩) | (go_at_call 132;refine (M.out _).mono ?_;rintro e w' ⟨rfl,rfl⟩)))
 all_goals
  go_ret;refine ⟨ret_int ?_,rfl⟩;rw [m.out];simp [*]
theorem ahead_any (s:ByteArray) (w:World) (T:LTabs w):Calls Tryz.prog 168 #[.string s] w fun e w'=>e=.returned (.int .i64 (aheadN s.data.toList))/\w=w':=by
 by_cases h0:0<s.size
 · exact ahead_some s w T h0
 · exact ahead_none s w T (by omega)
end Go.Proofs.YtbgfkdiihnidaaaGreatDoor

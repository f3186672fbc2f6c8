/- The proof, part 2: texts that belong together, in one. -/
import Derived.Test.YtggbkldniffbfaaGreatDoorTAA
import Derived.Lib.Hide
import Derived.Deep.RegionWith
import Derived.Deep.QuietTactic
import Derived.BigQuiet
import Derived.Deep.DeepMust
set_option maxRecDepth 100000
set_option maxHeartbeats 20000000
namespace Go.Proofs.YtggbkldniffbfaaGreatDoor
open Go.RowKit
set_option linter.unusedVariables false
theorem show_any (o:Int) (h0:0≤o) (h1:o≤255) (w:World) (T:Tabs w) :
 Calls Tryz.prog 104 #[.int .u8 o] w fun e w'=>e=.returned (.string ⟨(signOf o).toArray⟩)∧w=w':=by
 by_cases h:19≤o
 · have hl : signOf o = [] := by unfold signOf; rw [if_pos h]
   rw [hl];clear hl
   go_enter Tryz.func104,Tryz.ntmps104
   go_wp2
   go_ret
   exact ⟨rfl,rfl⟩
 · have hc := T.sgn o.toNat (by omega)
   have hl:signOf o=sgn.getD o.toNat []:=by unfold signOf;rw [if_neg h]
   rw [hl];clear hl
   obtain ⟨v,hv⟩:∃ v:ByteArray,v=⟨(sgn.getD o.toNat []).toArray⟩:=⟨_,rfl⟩
   rw [← hv] at hc ⊢
   clear hv T
   go_enter Tryz.func104,Tryz.ntmps104
   go_wp2
   go_ret
   exact ⟨rfl,rfl⟩
open Go.RowKit
set_option linter.unusedVariables false
set_option maxRecDepth 100000
def opsCells:Array Value:=#[.nilFunc,.nilFunc,.func (.func 151) #[] #[],.nilFunc,.func (.func 152) #[] #[],.nilFunc,.func (.func 153) #[] #[],.nilFunc,.func (.func 154) #[] #[],.nilFunc,.func (.func 155) #[] #[],.nilFunc,.func (.func 156) #[] #[],.nilFunc,.func (.func 157) #[] #[],.nilFunc,.func (.func 158) #[] #[],.nilFunc,.func (.func 159) #[] #[],.nilFunc,.func (.func 160) #[] #[],.nilFunc,.func (.func 161) #[] #[],.nilFunc,.func (.func 163) #[] #[],.nilFunc,.func (.func 164) #[] #[],.nilFunc,.func (.func 165) #[] #[],.nilFunc,.func (.func 166) #[] #[],.nilFunc,.func (.func 167) #[] #[],.nilFunc,.nilFunc,.func (.func 168) #[] #[],.nilFunc,.func (.func 169) #[] #[]]
def opsV:Value:=.agg opsCells
theorem below_setRow {B:Nat} {a w:World} (h:Below B a w) {g:Nat} (hg:B≤g) (cs:Array Value):Below B a (w.setRow g cs) :=
 h.trans ⟨rfl,rfl,rfl,by simp,fun k hk=>by
  simp only [World.setRow,Array.getElem?_modify]
  rw [if_neg (by omega)]⟩
theorem ops_any (w:World) :
 Calls Tryz.prog 131 #[] w fun e w'=>e=.returned opsV∧Below w.heap.size w w':=by
 go_enter Tryz.func131,Tryz.ntmps131
 go_wp2_with (refine wpList_store_row rfl 194 _ _ rfl w.heap.size opsCells rfl rfl 194 _ (heap_alloc_new w _) (by kernel_rfl) rfl (by kernel_rfl) ?_)
 refine bodyPost_ret (v:=opsV) (results_cell_row rfl _ _ w.heap.size 194 opsCells (0,0) _ rfl (setRow_heap _ _ _ _ _ _ (heap_alloc_new w _)) Tryz.underlying194 rfl (by kernel_rfl)) rfl ?_
 exact ⟨rfl,below_setRow ((Below.refl _ _).alloc (Nat.le_refl _) _) (Nat.le_refl _) _⟩
def bit (b:Bool):Int:=if b then 1 else 0
theorem truth_any (b:Bool) (w:World):Calls Tryz.prog 162 #[.bool b] w fun e w'=>e=.returned (.int .i64 (bit b))∧w=w':=by
 cases b
 · go_enter Tryz.func162, Tryz.ntmps162
   go_wp2
   go_ret
   exact ⟨rfl,rfl⟩
 · go_enter Tryz.func162, Tryz.ntmps162
   go_wp2
   go_ret
   exact ⟨rfl,rfl⟩
theorem minus1_any (a:Int) (w:World):Calls Tryz.prog 168 #[.int .i64 a] w fun e w'=>e=.returned (.int .i64 (wrap64 (-a)))∧w=w':=by
 go_enter Tryz.func168,Tryz.ntmps168
 go_wp2
 go_ret
 exact ⟨rfl,rfl⟩
theorem not1_any (a:Int) (w:World):Calls Tryz.prog 169 #[.int .i64 a] w fun e w'=>e=.returned (.int .i64 (bit (a==0)))∧w=w':=by
 go_enter Tryz.func169,Tryz.ntmps169
 go_wp2_with (go_at_call 162;refine (truth_any _ _).mono ?_;rintro e w' ⟨rfl,rfl⟩)
 go_ret
 exact ⟨rfl,rfl⟩
theorem one17 (a:Int) (w:World) (T:Tabs w):Calls Tryz.prog 102 #[.int .u8 17,.int .i64 a] w fun e w'=>e=.returned (.tuple #[.int .i64 (wrap64 (-a)),.int .i64 0])∧Below w.heap.size w w':=by
 have H2:=Lib.hid (show Calls Tryz.prog 103 #[.int .u8 17] w fun e w'=>e=.returned (.int .i64 9)∧w=w' from level_any 17 (by decide) (by decide) w T)
 have hidx:∀ w,(Instr.index 194 opsV (.int .u8 17)).run Tryz.prog w=.ok (.agg #[.nilFunc,.func (.func 168) #[] #[]]) w:=fun _=>by kernel_rfl
 have hfld:∀ w,(Instr.field 193 (.agg #[.nilFunc,.func (.func 168) #[] #[]]) 1).run Tryz.prog w=.ok (.func (.func 168) #[] #[]) w:=fun _=>by kernel_rfl
 clear T
 go_enter Tryz.func102,Tryz.ntmps102
 go_wp2_with (first | (go_at_call 103;refine (H2.out).mono ?_;rintro e w' ⟨rfl,rfl⟩) | (go_at_call 131;refine (ops_any _).mono ?_;rintro e w1 ⟨rfl,hb⟩) | (go_at_call 168;refine (minus1_any _ _).mono ?_;rintro e w' ⟨rfl,rfl⟩))
 go_ret2
 exact ⟨rfl,hb⟩
theorem one18 (a:Int) (w:World) (T:Tabs w):Calls Tryz.prog 102 #[.int .u8 18,.int .i64 a] w fun e w'=>e=.returned (.tuple #[.int .i64 (bit (a==0)),.int .i64 0])∧Below w.heap.size w w':=by
 have H2:=Lib.hid (show Calls Tryz.prog 103 #[.int .u8 18] w fun e w'=>e=.returned (.int .i64 9)∧w=w' from level_any 18 (by decide) (by decide) w T)
 have hidx:∀ w,(Instr.index 194 opsV (.int .u8 18)).run Tryz.prog w=.ok (.agg #[.nilFunc,.func (.func 169) #[] #[]]) w:=fun _=>by kernel_rfl
 have hfld:∀ w,(Instr.field 193 (.agg #[.nilFunc,.func (.func 169) #[] #[]]) 1).run Tryz.prog w=.ok (.func (.func 169) #[] #[]) w:=fun _=>by kernel_rfl
 clear T
 go_enter Tryz.func102,Tryz.ntmps102
 go_wp2_with (first | (go_at_call 103;refine (H2.out).mono ?_;rintro e w' ⟨rfl,rfl⟩) | (go_at_call 131;refine (ops_any _).mono ?_;rintro e w1 ⟨rfl,hb⟩) | (go_at_call 169;refine (not1_any _ _).mono ?_;rintro e w' ⟨rfl,rfl⟩))
 go_ret2
 exact ⟨rfl,hb⟩
theorem one_no (o a:Int) (h0:0≤o) (h1:o≤255) (hl:o≠17) (hl2:o≠18) (w:World) (T:Tabs w):Calls Tryz.prog 102 #[.int .u8 o,.int .i64 a] w fun e w'=>e=.returned (.tuple #[.int .i64 0,.int .i64 2])∧w=w':=by
 have hl':(levelOf o != 9)=true:=by
  by_cases h:19≤o
  · unfold levelOf;rw [if_pos h];rfl
  · have : o = 0 ∨ o = 1 ∨ o = 2 ∨ o = 3 ∨ o = 4 ∨ o = 5 ∨ o = 6 ∨ o = 7 ∨ o = 8 ∨ o = 9 ∨ o = 10 ∨ o = 11 ∨ o = 12 ∨ o = 13 ∨ o = 14 ∨ o = 15 ∨ o = 16 := by omega
    rcases this with rfl | rfl | rfl | rfl | rfl | rfl | rfl | rfl | rfl | rfl | rfl | rfl | rfl | rfl | rfl | rfl | rfl <;> rfl
 have H2:=Lib.hid (level_any o h0 h1 w T)
 obtain ⟨v,hv⟩:∃ v,v=levelOf o:=⟨_,rfl⟩
 rw [← hv] at hl' H2
 clear hv T h0 h1 hl hl2
 go_enter Tryz.func102,Tryz.ntmps102
 go_wp2_with (go_at_call 103;refine (H2.out).mono ?_;rintro e w' ⟨rfl,rfl⟩)
 go_ret2
 exact ⟨rfl,rfl⟩
def oneB (o:Int):Bool:=o==17 || o==18
theorem oneOp_any (o:Int) (h0:0≤o) (h1:o≤255) (w:World) (T:Tabs w):Calls Tryz.prog 102 #[.int .u8 o,.int .i64 0] w fun e w'=>(∃ x,e=.returned (.tuple #[.int .i64 x,.int .i64 (if oneB o then 0 else 2)]))∧Below w.heap.size w w':=by
 by_cases h17:o=17
 · subst h17;exact (one17 0 w T).mono fun e w' ⟨he,hb⟩=>⟨⟨_,he⟩,hb⟩
 · by_cases h18 : o = 18
   · subst h18;exact (one18 0 w T).mono fun e w' ⟨he,hb⟩=>⟨⟨_,he⟩,hb⟩
   · exact (one_no o 0 h0 h1 h17 h18 w T).mono fun e w' ⟨he,hb⟩=>⟨⟨0,by rw [he];simp [oneB,h17,h18]⟩,by rw [← hb];exact Below.refl _ _⟩
open Go.RowKit
set_option linter.unusedVariables false
theorem var_heap {P:Program} {w:World} {n:String} {g:Nat} {cs:Array Value} (hg:P.globalNamed n=some g) (h:w.var? P n=some cs):∃ t fr,w.heap[g]? = some (.cells cs t fr):=by
 simp only [World.var?,hg,Option.bind_some] at h
 split at h
 · rename_i c e fr he
   simp only [Option.some.injEq] at h
   subst h
   exact ⟨_,_,he⟩
 · cases h
def wordAt (k:Nat):ByteArray:=⟨(wordsL.getD k []).toArray⟩
def longAt (k:Nat):ByteArray:=⟨(longL.getD k []).toArray⟩
def wordB (s:ByteArray):Bool:=(wordAt 0).toList==s.toList || (wordAt 1).toList==s.toList || (wordAt 2).toList==s.toList || (wordAt 3).toList==s.toList || (wordAt 4).toList==s.toList || (wordAt 5).toList==s.toList || (wordAt 6).toList==s.toList || (wordAt 7).toList==s.toList || (wordAt 8).toList==s.toList || (wordAt 9).toList==s.toList
theorem word_any (s:ByteArray) (w:World) (T:LTabs w):Calls Tryz.prog 73 #[.string s] w fun e w'=>e=.returned (.bool (wordB s))∧w=w':=by
 obtain ⟨tt,fr,hg⟩:=var_heap gWords T.words
 have i0:∀ w,(Instr.index 161 (.agg wordCells) (.int .i64 0)).run Tryz.prog w=.ok (.string (wordAt 0)) w:=fun _=>by kernel_rfl
 have i1:∀ w,(Instr.index 161 (.agg wordCells) (.int .i64 1)).run Tryz.prog w=.ok (.string (wordAt 1)) w:=fun _=>by kernel_rfl
 have i2:∀ w,(Instr.index 161 (.agg wordCells) (.int .i64 2)).run Tryz.prog w=.ok (.string (wordAt 2)) w:=fun _=>by kernel_rfl
 have i3:∀ w,(Instr.index 161 (.agg wordCells) (.int .i64 3)).run Tryz.prog w=.ok (.string (wordAt 3)) w:=fun _=>by kernel_rfl
 have i4:∀ w,(Instr.index 161 (.agg wordCells) (.int .i64 4)).run Tryz.prog w=.ok (.string (wordAt 4)) w:=fun _=>by kernel_rfl
 have i5:∀ w,(Instr.index 161 (.agg wordCells) (.int .i64 5)).run Tryz.prog w=.ok (.string (wordAt 5)) w:=fun _=>by kernel_rfl
 have i6:∀ w,(Instr.index 161 (.agg wordCells) (.int .i64 6)).run Tryz.prog w=.ok (.string (wordAt 6)) w:=fun _=>by kernel_rfl
 have i7:∀ w,(Instr.index 161 (.agg wordCells) (.int .i64 7)).run Tryz.prog w=.ok (.string (wordAt 7)) w:=fun _=>by kernel_rfl
 have i8:∀ w,(Instr.index 161 (.agg wordCells) (.int .i64 8)).run Tryz.prog w=.ok (.string (wordAt 8)) w:=fun _=>by kernel_rfl
 have i9:∀ w,(Instr.index 161 (.agg wordCells) (.int .i64 9)).run Tryz.prog w=.ok (.string (wordAt 9)) w:=fun _=>by kernel_rfl
 clear T
 go_enter Tryz.func73,Tryz.ntmps73
 go_wp2_with (refine wpList_load_row rfl 161 _ rfl 0 rfl tt _ fr _ hg Tryz.underlying161 rfl (by kernel_rfl) ?_)
 go_rounds 11
 all_goals
  go_ret
  exact ⟨ret_bool (by simp [wordB, *]),rfl⟩
open Go.RowKit
set_option linter.unusedVariables false
def longB (l:List UInt8):Bool:=Lib.hasPrefix l (longAt 0).data.toList || Lib.hasPrefix l (longAt 1).data.toList || Lib.hasPrefix l (longAt 2).data.toList || Lib.hasPrefix l (longAt 3).data.toList || Lib.hasPrefix l (longAt 4).data.toList || Lib.hasPrefix l (longAt 5).data.toList
def firstN (l:List UInt8):Nat:=match l with
 | []=>0
 | c::_=>if signB (c.toNat:Int)=true then 1 else 0
def aheadN (l:List UInt8):Nat:=if longB l=true then 2 else firstN l
theorem ret_int {k:IntKind} {a b:Int} (h:a=b):Ending.returned (.int k a)=.returned (.int k b):=by rw [h]
theorem ahead_none (s:ByteArray) (w:World) (T:LTabs w) (h0:s.size=0):Calls Tryz.prog 179 #[.string s] w fun e w'=>e=.returned (.int .i64 (aheadN s.data.toList))∧w=w':=by
 obtain ⟨tt,fr,hg⟩:=var_heap gLong T.long
 obtain ⟨R,hR⟩:∃ R,R=aheadN s.data.toList:=⟨_,rfl⟩
 rw [← hR]
 have i0:∀ w,(Instr.index 229 (.agg longCells) (.int .i64 0)).run Tryz.prog w=.ok (.string (longAt 0)) w:=fun _=>by kernel_rfl
 have z0:(longAt 0).size=2:=rfl
 obtain ⟨p0,hp0⟩:∃ p,p=Lib.hasPrefix s.data.toList (longAt 0).data.toList:=⟨_,rfl⟩
 have H0:=Lib.hid (show ∀ w:World,Calls Tryz.prog 117 #[.string s,.string (longAt 0)] w fun e w'=>e=.returned (.bool p0)∧w'=w from fun w=>by rw [hp0];exact Go.Proofs.Tryz.strings_HasPrefix s (longAt 0) w)
 have i1:∀ w,(Instr.index 229 (.agg longCells) (.int .i64 1)).run Tryz.prog w=.ok (.string (longAt 1)) w:=fun _=>by kernel_rfl
 have z1:(longAt 1).size=2:=rfl
 obtain ⟨p1,hp1⟩:∃ p,p=Lib.hasPrefix s.data.toList (longAt 1).data.toList:=⟨_,rfl⟩
 have H1:=Lib.hid (show ∀ w:World,Calls Tryz.prog 117 #[.string s,.string (longAt 1)] w fun e w'=>e=.returned (.bool p1)∧w'=w from fun w=>by rw [hp1];exact Go.Proofs.Tryz.strings_HasPrefix s (longAt 1) w)
 have i2:∀ w,(Instr.index 229 (.agg longCells) (.int .i64 2)).run Tryz.prog w=.ok (.string (longAt 2)) w:=fun _=>by kernel_rfl
 have z2:(longAt 2).size=2:=rfl
 obtain ⟨p2,hp2⟩:∃ p,p=Lib.hasPrefix s.data.toList (longAt 2).data.toList:=⟨_,rfl⟩
 have H2:=Lib.hid (show ∀ w:World,Calls Tryz.prog 117 #[.string s,.string (longAt 2)] w fun e w'=>e=.returned (.bool p2)∧w'=w from fun w=>by rw [hp2];exact Go.Proofs.Tryz.strings_HasPrefix s (longAt 2) w)
 have i3:∀ w,(Instr.index 229 (.agg longCells) (.int .i64 3)).run Tryz.prog w=.ok (.string (longAt 3)) w:=fun _=>by kernel_rfl
 have z3:(longAt 3).size=2:=rfl
 obtain ⟨p3,hp3⟩:∃ p,p=Lib.hasPrefix s.data.toList (longAt 3).data.toList:=⟨_,rfl⟩
 have H3:=Lib.hid (show ∀ w:World,Calls Tryz.prog 117 #[.string s,.string (longAt 3)] w fun e w'=>e=.returned (.bool p3)∧w'=w from fun w=>by rw [hp3];exact Go.Proofs.Tryz.strings_HasPrefix s (longAt 3) w)
 have i4:∀ w,(Instr.index 229 (.agg longCells) (.int .i64 4)).run Tryz.prog w=.ok (.string (longAt 4)) w:=fun _=>by kernel_rfl
 have z4:(longAt 4).size=2:=rfl
 obtain ⟨p4,hp4⟩:∃ p,p=Lib.hasPrefix s.data.toList (longAt 4).data.toList:=⟨_,rfl⟩
 have H4:=Lib.hid (show ∀ w:World,Calls Tryz.prog 117 #[.string s,.string (longAt 4)] w fun e w'=>e=.returned (.bool p4)∧w'=w from fun w=>by rw [hp4];exact Go.Proofs.Tryz.strings_HasPrefix s (longAt 4) w)
 have i5:∀ w,(Instr.index 229 (.agg longCells) (.int .i64 5)).run Tryz.prog w=.ok (.string (longAt 5)) w:=fun _=>by kernel_rfl
 have z5:(longAt 5).size=2:=rfl
 obtain ⟨p5,hp5⟩:∃ p,p=Lib.hasPrefix s.data.toList (longAt 5).data.toList:=⟨_,rfl⟩
 have H5:=Lib.hid (show ∀ w:World,Calls Tryz.prog 117 #[.string s,.string (longAt 5)] w fun e w'=>e=.returned (.bool p5)∧w'=w from fun w=>by rw [hp5];exact Go.Proofs.Tryz.strings_HasPrefix s (longAt 5) w)
 have hRR:Hid (R=if (p0 || p1 || p2 || p3 || p4 || p5)=true then 2 else firstN s.data.toList):=by
  rw [Hid,hR,hp0,hp1,hp2,hp3,hp4,hp5];rfl
 clear hR hp0 hp1 hp2 hp3 hp4 hp5 T
 have h3:s=⟨#[]⟩:=by
  cases s with
  | mk d=>have:d.size=0:=h0;simp at this;rw [this]
 subst h3
 have hf:firstN (ByteArray.mk #[]).data.toList=0:=rfl
 rw [hf] at hRR
 clear h0 hf
 go_enter Tryz.func179,Tryz.ntmps179
 go_wp2_with (refine wpList_load_row rfl 229 _ rfl 6 rfl tt _ fr _ hg Tryz.underlying229 rfl (by kernel_rfl) ?_)
 refine wp_loop_rounds 7 ?_
 repeat any_goals (rw [rounds_succ];go_wp2_with (first | (go_at_call 117;(with_reducible refine (H0.out _).mono ?_);rintro e w' ⟨rfl,rfl⟩) | (go_at_call 117;(with_reducible refine (H1.out _).mono ?_);rintro e w' ⟨rfl,rfl⟩) | (go_at_call 117;(with_reducible refine (H2.out _).mono ?_);rintro e w' ⟨rfl,rfl⟩) | (go_at_call 117;(with_reducible refine (H3.out _).mono ?_);rintro e w' ⟨rfl,rfl⟩) | (go_at_call 117;(with_reducible refine (H4.out _).mono ?_);rintro e w' ⟨rfl,rfl⟩) | (go_at_call 117;(with_reducible refine (H5.out _).mono ?_);rintro e w' ⟨rfl,rfl⟩)))
 all_goals
  go_ret
  refine ⟨ret_int ?_,rfl⟩
  rw [hRR.out]
  simp [*]
theorem ahead_some (s:ByteArray) (w:World) (T:LTabs w) (h0:0<s.size):Calls Tryz.prog 179 #[.string s] w fun e w'=>e=.returned (.int .i64 (aheadN s.data.toList))∧w=w':=by
 obtain ⟨tt,fr,hg⟩:=var_heap gLong T.long
 obtain ⟨R,hR⟩:∃ R,R=aheadN s.data.toList:=⟨_,rfl⟩
 rw [← hR]
 have i0:∀ w,(Instr.index 229 (.agg longCells) (.int .i64 0)).run Tryz.prog w=.ok (.string (longAt 0)) w:=fun _=>by kernel_rfl
 have z0:(longAt 0).size=2:=rfl
 obtain ⟨p0,hp0⟩:∃ p,p=Lib.hasPrefix s.data.toList (longAt 0).data.toList:=⟨_,rfl⟩
 have H0:=Lib.hid (show ∀ w:World,Calls Tryz.prog 117 #[.string s,.string (longAt 0)] w fun e w'=>e=.returned (.bool p0)∧w'=w from fun w=>by rw [hp0];exact Go.Proofs.Tryz.strings_HasPrefix s (longAt 0) w)
 have i1:∀ w,(Instr.index 229 (.agg longCells) (.int .i64 1)).run Tryz.prog w=.ok (.string (longAt 1)) w:=fun _=>by kernel_rfl
 have z1:(longAt 1).size=2:=rfl
 obtain ⟨p1,hp1⟩:∃ p,p=Lib.hasPrefix s.data.toList (longAt 1).data.toList:=⟨_,rfl⟩
 have H1:=Lib.hid (show ∀ w:World,Calls Tryz.prog 117 #[.string s,.string (longAt 1)] w fun e w'=>e=.returned (.bool p1)∧w'=w from fun w=>by rw [hp1];exact Go.Proofs.Tryz.strings_HasPrefix s (longAt 1) w)
 have i2:∀ w,(Instr.index 229 (.agg longCells) (.int .i64 2)).run Tryz.prog w=.ok (.string (longAt 2)) w:=fun _=>by kernel_rfl
 have z2:(longAt 2).size=2:=rfl
 obtain ⟨p2,hp2⟩:∃ p,p=Lib.hasPrefix s.data.toList (longAt 2).data.toList:=⟨_,rfl⟩
 have H2:=Lib.hid (show ∀ w:World,Calls Tryz.prog 117 #[.string s,.string (longAt 2)] w fun e w'=>e=.returned (.bool p2)∧w'=w from fun w=>by rw [hp2];exact Go.Proofs.Tryz.strings_HasPrefix s (longAt 2) w)
 have i3:∀ w,(Instr.index 229 (.agg longCells) (.int .i64 3)).run Tryz.prog w=.ok (.string (longAt 3)) w:=fun _=>by kernel_rfl
 have z3:(longAt 3).size=2:=rfl
 obtain ⟨p3,hp3⟩:∃ p,p=Lib.hasPrefix s.data.toList (longAt 3).data.toList:=⟨_,rfl⟩
 have H3:=Lib.hid (show ∀ w:World,Calls Tryz.prog 117 #[.string s,.string (longAt 3)] w fun e w'=>e=.returned (.bool p3)∧w'=w from fun w=>by rw [hp3];exact Go.Proofs.Tryz.strings_HasPrefix s (longAt 3) w)
 have i4:∀ w,(Instr.index 229 (.agg longCells) (.int .i64 4)).run Tryz.prog w=.ok (.string (longAt 4)) w:=fun _=>by kernel_rfl
 have z4:(longAt 4).size=2:=rfl
 obtain ⟨p4,hp4⟩:∃ p,p=Lib.hasPrefix s.data.toList (longAt 4).data.toList:=⟨_,rfl⟩
 have H4:=Lib.hid (show ∀ w:World,Calls Tryz.prog 117 #[.string s,.string (longAt 4)] w fun e w'=>e=.returned (.bool p4)∧w'=w from fun w=>by rw [hp4];exact Go.Proofs.Tryz.strings_HasPrefix s (longAt 4) w)
 have i5:∀ w,(Instr.index 229 (.agg longCells) (.int .i64 5)).run Tryz.prog w=.ok (.string (longAt 5)) w:=fun _=>by kernel_rfl
 have z5:(longAt 5).size=2:=rfl
 obtain ⟨p5,hp5⟩:∃ p,p=Lib.hasPrefix s.data.toList (longAt 5).data.toList:=⟨_,rfl⟩
 have H5:=Lib.hid (show ∀ w:World,Calls Tryz.prog 117 #[.string s,.string (longAt 5)] w fun e w'=>e=.returned (.bool p5)∧w'=w from fun w=>by rw [hp5];exact Go.Proofs.Tryz.strings_HasPrefix s (longAt 5) w)
 have hRR:Hid (R=if (p0 || p1 || p2 || p3 || p4 || p5)=true then 2 else firstN s.data.toList):=by
  rw [Hid,hR,hp0,hp1,hp2,hp3,hp4,hp5];rfl
 clear hR hp0 hp1 hp2 hp3 hp4 hp5 T
 have hbt:=PlainAid.get_bt s
 have hx0:=PlainAid.bt_nonneg s 0
 have hx1:=PlainAid.bt_le s 0
 obtain ⟨c,hc⟩:∃ c,c=PlainAid.bt s 0:=⟨_,rfl⟩
 rw [← hc] at hx0 hx1
 have hbt0:∀ h:0<s.size,((s[0]'h).toNat:Int)=c:=fun h=>by rw [hc];exact PlainAid.get_bt s 0 h
 have hfr:s.data.toList=s[0]::bytesFrom s 1:=from_at s 0 h0
 obtain ⟨q,hq⟩:∃ q,q=signB c:=⟨_,rfl⟩
 have hf:firstN s.data.toList=if q=true then 1 else 0:=by
  rw [hfr,hq,← hbt0 h0];rfl
 rw [hf] at hRR
 have hne:s.toList.isEmpty=false:=by rw [Lib.toList_data,hfr];rfl
 have hne2:¬ s.toList=[]:=by rw [Lib.toList_data,hfr];simp
 have HS:=Lib.hid (show ∀ w:World,Calls Tryz.prog 146 #[.int .u8 c] w fun e w'=>e=.returned (.bool q)∧w=w' from fun w=>by rw [hq];exact sign_any c hx0 hx1 w)
 clear hf hfr hbt hq hc
 go_enter Tryz.func179,Tryz.ntmps179
 go_wp2_with (refine wpList_load_row rfl 229 _ rfl 6 rfl tt _ fr _ hg Tryz.underlying229 rfl (by kernel_rfl) ?_)
 refine wp_loop_rounds 7 ?_
 repeat any_goals (rw [rounds_succ];go_wp2_with (first | (go_at_call 117;(with_reducible refine (H0.out _).mono ?_);rintro e w' ⟨rfl,rfl⟩) | (go_at_call 117;(with_reducible refine (H1.out _).mono ?_);rintro e w' ⟨rfl,rfl⟩) | (go_at_call 117;(with_reducible refine (H2.out _).mono ?_);rintro e w' ⟨rfl,rfl⟩) | (go_at_call 117;(with_reducible refine (H3.out _).mono ?_);rintro e w' ⟨rfl,rfl⟩) | (go_at_call 117;(with_reducible refine (H4.out _).mono ?_);rintro e w' ⟨rfl,rfl⟩) | (go_at_call 117;(with_reducible refine (H5.out _).mono ?_);rintro e w' ⟨rfl,rfl⟩) | (go_at_call 146;refine (HS.out _).mono ?_;rintro e w' ⟨rfl,rfl⟩)))
 all_goals
  go_ret
  refine ⟨ret_int ?_,rfl⟩
  rw [hRR.out]
  simp [*]
theorem ahead_any (s:ByteArray) (w:World) (T:LTabs w):Calls Tryz.prog 179 #[.string s] w fun e w'=>e=.returned (.int .i64 (aheadN s.data.toList))∧w=w':=by
 by_cases h0:0<s.size
 · exact ahead_some s w T h0
 · exact ahead_none s w T (by omega)
open Go.RowKit
set_option linter.unusedVariables false
def digitsV:List UInt8→Int→Option Int
 | [],v=>some v
 | c::r,v=>if digitB (c.toNat:Int)=false then none else if (9223372036854775807-((c.toNat:Int)-48)) / 10<v then none else digitsV r (v*10+((c.toNat:Int)-48))
def valueO (l:List UInt8):Option Int:=match l with
 | []=>none
 | c::r=>if (c.toNat:Int)=48∧r≠[] then none else digitsV (c::r) 0
def ValueV (o:Option Int):Value:=.tuple #[.int .i64 (o.getD 0),.bool o.isSome]
theorem value_none (w:World):Calls Tryz.prog 177 #[.string ⟨#[]⟩] w fun e w'=>e=.returned (ValueV none)∧w=w':=by
 go_enter Tryz.func177,Tryz.ntmps177
 go_wp2
 go_ret2
 exact ⟨rfl,rfl⟩
theorem value_nought (s:ByteArray) (w:World) (h0:1<s.size) (h48:PlainAid.bt s 0=48):Calls Tryz.prog 177 #[.string s] w fun e w'=>e=.returned (ValueV none)∧w=w':=by
 have hbt0:∀ h:0<s.size,((s[0]'h).toNat:Int)=48:=fun h=>by rw [← h48];exact PlainAid.get_bt s 0 h
 have hne:s.toList.isEmpty=false:=by
  rw [Lib.toList_data,show s.data.toList=s[0]::bytesFrom s 1 from from_at s 0 (by omega)];rfl
 clear h48
 go_enter Tryz.func177,Tryz.ntmps177
 go_wp2
 go_ret2
 exact ⟨rfl,rfl⟩
theorem digitsV_no {c:Int} {u:UInt8} {r:List UInt8} {v:Int} (hu:(u.toNat:Int)=c) (h:digitB c=false∨(9223372036854775807-(c-48)) / 10<v):digitsV (u::r) v=none:=by
 subst hu;simp only [digitsV]
 rcases h with h | h
 · rw [if_pos h]
 · by_cases h2 : digitB (u.toNat : Int) = false
   · rw [if_pos h2]
   · rw [if_neg h2,if_pos h]
theorem digitsV_yes {c:Int} {u:UInt8} {r:List UInt8} {v:Int} (hu:(u.toNat:Int)=c) (h:digitB c=true) (h2:¬ (9223372036854775807-(c-48)) / 10<v):digitsV (u::r) v=digitsV r (v*10+(c-48)):=by
 subst hu;simp only [digitsV]
 rw [if_neg (by rw [h];decide),if_neg h2]
theorem digitB_bd {c:Int} (h:digitB c=true):48≤c∧c≤57:=by simpa [digitB] using h
theorem value_loop (s:ByteArray) (w:World) (hs:s.size≤4611686018427387904) (h0:0<s.size) (hq:s.size≤1∨¬ PlainAid.bt s 0=48):Calls Tryz.prog 177 #[.string s] w fun e w'=>e=.returned (ValueV (digitsV s.data.toList 0))∧w=w':=by
 obtain ⟨R,hR⟩:∃ R,R=digitsV s.data.toList 0:=⟨_,rfl⟩
 rw [← hR]
 have HR:=Lib.hid hR
 clear hR
 have hbs:=PlainAid.get_bt s
 have hne:s.toList.isEmpty=false:=by
  rw [Lib.toList_data,show s.data.toList=s[0]::bytesFrom s 1 from from_at s 0 (by omega)];rfl
 have key:∀ K:Prop,(s.size≤1→K)→(1<s.size→(PlainAid.bt s 0==48)=false→K)→K:=fun K a b=>by
  by_cases h1:s.size≤1
  · exact a h1
  · exact b (by omega) (int_f (by omega))
 clear hq
 apply key
 all_goals
  clear key
  intros
  go_enter Tryz.func177,Tryz.ntmps177
  go_wp2_with fail
  go_loop [4,21] (fun v i=>∃ (k:Nat) (z:Int),k≤s.size∧i=.int .i64 k∧v=.int .i64 z∧0≤z∧z≤9223372036854775807∧Hid (digitsV (bytesFrom s k) z=R)) (fun _ i=>s.size-(intOf i).toNat)
  case atStart=>exact ⟨0,0,Nat.zero_le _,rfl,rfl,by decide,by decide,HR.out.symm⟩
  case round =>
   obtain ⟨k,z,hk,rfl,rfl,hz0,hz1,hp⟩:=hrel
   by_cases hlt:k<s.size
   · have hx0 := PlainAid.bt_nonneg s k
     have hx1:=PlainAid.bt_le s k
     have hu:((s[k]).toNat:Int)=PlainAid.bt s k:=PlainAid.get_bt s k hlt
     have hfr:=from_at s k hlt
     obtain ⟨c,hc⟩:∃ c,c=PlainAid.bt s k:=⟨_,rfl⟩
     have hbt:∀ h:k<s.size,((s[k]'h).toNat:Int)=c:=fun h=>by rw [hc];exact PlainAid.get_bt s k h
     rw [← hc] at hu hx0 hx1
     clear hc hbs
     have H:=Lib.hid (fun w=>digit_any c hx0 hx1 w)
     by_cases hd:digitB c=true
     · have hcb := digitB_bd hd
       by_cases hov:(9223372036854775807-(c-48)) / 10<z
       · have hn : Hid (R = none) := by rw [Hid, ← hp.out, hfr, digitsV_no hu (.inr hov)]
         rw [hd] at H
         clear hfr hu hp hd
         go_wp2_with (go_at_call 72;refine (H.out _).mono ?_;rintro e w' ⟨rfl,rfl⟩)
         go_ret2
         rw [hn.out]
         exact ⟨rfl,rfl⟩
       · have hn : Hid (digitsV (bytesFrom s (k + 1)) (z * 10 + (c - 48)) = R) := by rw [Hid, ← hp.out, hfr, digitsV_yes hu hd hov]
         have hb1:z*10+(c-48)≤9223372036854775807∧0≤z*10+(c-48):=by omega
         rw [hd] at H
         clear hfr hu hp hd
         go_wp2_with (go_at_call 72;refine (H.out _).mono ?_;rintro e w' ⟨rfl,rfl⟩)
         go_round
         case rel=>exact ⟨k+1,z*10+(c-48),by omega,by go_num,rfl,by omega,by omega,hn⟩
         case measure=>simp [intOf];omega
     · have hdf : digitB c = false := by simpa using hd
       have hn:Hid (R=none):=by rw [Hid,← hp.out,hfr,digitsV_no hu (.inl hdf)]
       rw [hdf] at H
       clear hfr hu hp hd hdf
       go_wp2_with (go_at_call 72;refine (H.out _).mono ?_;rintro e w' ⟨rfl,rfl⟩)
       go_ret2
       rw [hn.out]
       exact ⟨rfl,rfl⟩
   · have hn : Hid (R = some z) := by
      rw [Hid,← hp.out,from_end s k (by omega)];rfl
     clear hp
     go_wp2_with fail
     go_ret2
     rw [hn.out]
     exact ⟨rfl,rfl⟩
theorem value_any (s:ByteArray) (hs:s.size≤4611686018427387904) (w:World):Calls Tryz.prog 177 #[.string s] w fun e w'=>e=.returned (ValueV (valueO s.data.toList))∧w=w':=by
 by_cases h0:0<s.size
 · have hfr : s.data.toList = s[0] :: bytesFrom s 1 := from_at s 0 h0
   have hu:((s[0]).toNat:Int)=PlainAid.bt s 0:=PlainAid.get_bt s 0 h0
   have hl:(bytesFrom s 1≠[])↔1<s.size:=by
    have:(bytesFrom s 1).length=s.size-1:=by unfold bytesFrom;simp
    constructor
    · intro h
      apply Nat.lt_of_not_le
      intro hx
      exact h (List.length_eq_zero_iff.1 (by omega))
    · intro h hx
      rw [hx] at this
      simp at this
      omega
   by_cases h:1<s.size∧PlainAid.bt s 0=48
   · have e : valueO s.data.toList = none := by
      rw [hfr];unfold valueO
      simp only []
      rw [if_pos ⟨hu.trans h.2,hl.2 h.1⟩]
     rw [e]
     exact value_nought s w h.1 h.2
   · have e : valueO s.data.toList = digitsV s.data.toList 0 := by
      rw [hfr];unfold valueO
      simp only []
      rw [if_neg (fun hx=>h ⟨hl.1 hx.2,hu.symm.trans hx.1⟩)]
     rw [e]
     exact value_loop s w hs h0 (by
      by_cases h1:s.size≤1
      · exact .inl h1
      · exact .inr fun hx=>h ⟨by omega,hx⟩)
 · have h3 : s = ⟨#[]⟩ := by
    cases s with
    | mk d =>
      have h1:(ByteArray.mk d).size=0:=by omega
      have h2:d.size=0:=h1
      simp at h2;rw [h2]
   subst h3
   exact value_none w
theorem clone_any (s:ByteArray) (hs:s.size≤281474976710656) (w:World):Calls Tryz.prog 108 #[.string s] w fun e w'=>e=.returned (.string s)∧Below w.heap.size w w':=by
 have H:=Lib.hid (Go.Proofs.Tryz.stringslite_Clone s w hs)
 go_enter Tryz.func108,Tryz.ntmps108
 go_wp2_with (go_at_call 135;refine (H.out).mono ?_;rintro e w' ⟨rfl,hb⟩)
 go_ret
 exact ⟨rfl,hb⟩
open Go.RowKit
set_option linter.unusedVariables false
def Sc (W:World) (b:Nat) (s:ByteArray) (p fa fr:Int):Prop:=W.heap[b]? = some (.cells #[.string s,.int .i64 p,.int .i64 fa,.int .i64 fr] 138 (0,0))
theorem Sc.lt {W:World} {b:Nat} {s:ByteArray} {p fa fr:Int} (h:Sc W b s p fa fr):b<W.heap.size:=(Array.getElem?_eq_some_iff.1 h).1
theorem Sc.cells {W:World} {b:Nat} {s:ByteArray} {p fa fr:Int} (h:Sc W b s p fa fr) :
 (W.cell? ⟨b,0,none⟩=some (.string s)∧W.cell? ⟨b,1,none⟩=some (.int .i64 p)∧W.cell? ⟨b,2,none⟩=some (.int .i64 fa)∧W.cell? ⟨b,3,none⟩=some (.int .i64 fr)) ∧
 (W.frozen? ⟨b,1,none⟩=false∧W.frozen? ⟨b,2,none⟩=false∧W.frozen? ⟨b,3,none⟩=false) :=
 ⟨⟨cell_of_row W b 0 _ _ _ h,cell_of_row W b 1 _ _ _ h,cell_of_row W b 2 _ _ _ h,cell_of_row W b 3 _ _ _ h⟩,frozen_of_row W b 1 _ _ h,frozen_of_row W b 2 _ _ h,frozen_of_row W b 3 _ _ h⟩
theorem Sc.below {W W':World} {b B:Nat} {s:ByteArray} {p fa fr:Int} (h:Sc W b s p fa fr) (hb:Below B W W') (hB:b<B):Sc W' b s p fa fr:=(hb.block b hB).trans h
def tokV (kind:Int) (x:ByteArray) (wd p:Int):Value:=.agg #[.int .u8 kind,.string x,.int .i64 wd,.int .i64 p]
def faultV (a r:Int):Value:=.agg #[.int .i64 a,.int .i64 r]
theorem kept2 {W w1:World} (hb:Below W.heap.size W w1) (w:World) (A B:Obj) (hW:W.heap=((w.alloc A).alloc B).heap) (hos:W.os=w.os) (htape:W.tape=w.tape) (hout:W.output=w.output) :
 w1.heap[w.heap.size]? = some A∧w1.heap[w.heap.size+1]? = some B∧w.heap.size+1<w1.heap.size∧Below w.heap.size w w1:=by
 have hz:W.heap.size=w.heap.size+2:=by rw [hW];simp
 have h0:W.heap[w.heap.size]? = some A:=by rw [hW];exact heap_alloc2_old w A B
 have h1:W.heap[w.heap.size+1]? = some B:=by rw [hW];exact heap_alloc2_new w A B
 refine ⟨(hb.block _ (by omega)).trans h0,(hb.block _ (by omega)).trans h1,by have:=hb.size;omega,hb.os.trans hos,hb.tape.trans htape,hb.output.trans hout,by have:=hb.size;omega,fun k hk=>?_⟩
 rw [hb.block k (by omega),hW]
 have e1:=Below.heap_alloc w A k hk
 have e2:=Below.heap_alloc (w.alloc A) B k (by simp;omega)
 rw [e2,e1]
theorem row4 {w:World} {g:Nat} {a b c d:Value} {t:TypeId} (h:w.heap[g]? = some (.cells #[a,b,c,d] t (0,0))) :
 (w.cell? ⟨g,0,none⟩=some a∧w.cell? ⟨g,1,none⟩=some b∧w.cell? ⟨g,2,none⟩=some c∧w.cell? ⟨g,3,none⟩=some d)∧w.frozen? ⟨g,0,none⟩=false∧w.frozen? ⟨g,1,none⟩=false∧w.frozen? ⟨g,2,none⟩=false∧w.frozen? ⟨g,3,none⟩=false :=
 ⟨⟨cell_of_row w g 0 _ _ _ h,cell_of_row w g 1 _ _ _ h,cell_of_row w g 2 _ _ _ h,cell_of_row w g 3 _ _ _ h⟩,frozen_of_row w g 0 _ _ h,frozen_of_row w g 1 _ _ h,frozen_of_row w g 2 _ _ h,frozen_of_row w g 3 _ _ h⟩
theorem row2 {w:World} {g:Nat} {a b:Value} {t:TypeId} (h:w.heap[g]? = some (.cells #[a,b] t (0,0))) :
 (w.cell? ⟨g,0,none⟩=some a∧w.cell? ⟨g,1,none⟩=some b)∧w.frozen? ⟨g,0,none⟩=false∧w.frozen? ⟨g,1,none⟩=false :=
 ⟨⟨cell_of_row w g 0 _ _ _ h,cell_of_row w g 1 _ _ _ h⟩,frozen_of_row w g 0 _ _ h,frozen_of_row w g 1 _ _ h⟩
def tokZ:Obj:=.cells #[.int .u8 0,.string ⟨#[]⟩,.int .i64 0,.int .i64 0] 111
def faultZ:Obj:=.cells #[.int .i64 0,.int .i64 0] 36
theorem token_any (b:Nat) (s x:ByteArray) (p fa fr kind wd:Int) (w:World) (hx:x.size≤281474976710656) (hs:Sc w b s p fa fr) :
 Calls Tryz.prog 176 #[.pointer (some ⟨b,0,none⟩),.int .u8 kind,.string x,.int .i64 wd] w fun e w'=>e=.returned (.tuple #[tokV kind x wd p,faultV 0 0])∧Below w.heap.size w w':=by
 have hlt:=hs.lt
 obtain ⟨⟨c0,c1,c2,c3⟩,f1,f2,f3⟩:=hs.cells
 have H:=Lib.hid (fun w=>clone_any x hx w)
 clear hs hx
 go_enter Tryz.func176,Tryz.ntmps176
 go_wp2_with fail
 go_region_with (go_at_call 108;go_must (refine (H.out _).mono ?_;rintro e w1 ⟨rfl,hb⟩;obtain ⟨hA,hB,hz,hw⟩:=kept2 hb w tokZ faultZ rfl rfl rfl rfl;obtain ⟨⟨a0,a1,a2,a3⟩,a4,a5,a6,a7⟩:=row4 hA;obtain ⟨⟨b0,b1⟩,b2,b3⟩:=row2 hB;have g1:=(hw.cell (p:=⟨b,1,none⟩) hlt).trans c1;clear hA hB hb))
 all_goals
  go_wp2
  refine bodyPost_ret (v:=.tuple #[.agg #[.int .u8 kind,.string x,.int .i64 wd,.int .i64 p],.agg #[.int .i64 0,.int .i64 0]]) (by simp [results,Tryz.results176,go_sem,a0,a1,a2,a3,b0,b1]) rfl ⟨rfl,?_⟩
  exact (((((hw.setCell (p:=⟨w.heap.size,0,none⟩) (Nat.le_refl _) _).setCell (p:=⟨w.heap.size,1,none⟩) (Nat.le_refl _) _).setCell (p:=⟨w.heap.size,2,none⟩) (Nat.le_refl _) _).setCell (p:=⟨w.heap.size,3,none⟩) (Nat.le_refl _) _).setCell (p:=⟨w.heap.size+1,0,none⟩) (Nat.le_succ _) _).setCell (p:=⟨w.heap.size+1,1,none⟩) (Nat.le_succ _) _
end Go.Proofs.YtggbkldniffbfaaGreatDoor

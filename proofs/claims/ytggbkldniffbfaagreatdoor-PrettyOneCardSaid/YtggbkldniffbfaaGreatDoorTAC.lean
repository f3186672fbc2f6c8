/- The proof, part 3: texts that belong together, in one. -/
import Derived.Test.YtggbkldniffbfaaGreatDoorTAB
import Derived.RegionTactic
import Derived.ChangeAlike
import Derived.WalkSpells
set_option maxRecDepth 100000
set_option maxHeartbeats 20000000
namespace Go.Proofs.YtggbkldniffbfaaGreatDoor
open Go.RowKit
set_option linter.unusedVariables false
structure Res where
 kind:Int
 text:ByteArray
 wd:Int
 place:Int
 fa:Int
 fr:Int
def Res.val (r:Res):Value:=.tuple #[tokV r.kind r.text r.wd r.place,faultV r.fa r.fr]
theorem drew2 {w:World} {A B:Obj} (n:Nat):Below w.heap.size w (((w.alloc A).alloc B).drewN n):=by
 have h:=((Below.refl w.heap.size w).alloc (Nat.le_refl _) A).alloc (by simp) B
 exact ⟨h.os,h.tape,h.output,h.size,h.block⟩
theorem LTabs.drew2 {w:World} (T:LTabs w) (A B:Obj) (n:Nat):LTabs (((w.alloc A).alloc B).drewN n):=T.below (Nat.le_refl _) (Proofs.YtggbkldniffbfaaGreatDoor.drew2 n)
theorem Sc.drew2 {w:World} {b:Nat} {s:ByteArray} {p fa fr:Int} (h:Sc w b s p fa fr) (A B:Obj) (n:Nat):Sc (((w.alloc A).alloc B).drewN n) b s p fa fr:=h.below (Proofs.YtggbkldniffbfaaGreatDoor.drew2 n) h.lt
theorem tail_list (s:ByteArray) (p:Nat):(s.extract p s.size).data.toList=bytesFrom s p:=by
 rw [Lib.extract_data]
 unfold bytesFrom
 rw [List.take_of_length_le (by simp)]
def nameX (s:ByteArray) (p:Nat):ByteArray:=(s.extract p s.size).extract 0 (spanN namedB (bytesFrom s p))
def nameR (s:ByteArray) (p:Nat):Res :=
 if wordB (nameX s p)=true then ⟨2,nameX s p,0,p,0,0⟩
 else if 32<(nameX s p).size then ⟨0,⟨#[]⟩,0,0,p+32,2⟩
 else ⟨1,nameX s p,0,p,0,0⟩
theorem token_lit (b:Nat) (s x:ByteArray) (p fa fr kind wd:Int) (w:World) (hx:x.size≤281474976710656) (hs:Sc w b s p fa fr) :
 Calls Tryz.prog 176 #[.pointer (some ⟨b,0,none⟩),.int .u8 kind,.string x,.int .i64 wd] w fun e w'=>e=.returned (.tuple #[.agg #[.int .u8 kind,.string x,.int .i64 wd,.int .i64 p],.agg #[.int .i64 0,.int .i64 0]])∧Below w.heap.size w w' :=
 token_any b s x p fa fr kind wd w hx hs
theorem stored6 {w w1:World} (hw:Below w.heap.size w w1) (u0 u1 u2 u3 v0 v1:Value):Below w.heap.size w ((((((w1.setCell ⟨w.heap.size,0,none⟩ u0).setCell ⟨w.heap.size,1,none⟩ u1).setCell ⟨w.heap.size,2,none⟩ u2).setCell ⟨w.heap.size,3,none⟩ u3).setCell ⟨w.heap.size+1,0,none⟩ v0).setCell ⟨w.heap.size+1,1,none⟩ v1) :=
 (((((hw.setCell (p:=⟨w.heap.size,0,none⟩) (Nat.le_refl _) _).setCell (p:=⟨w.heap.size,1,none⟩) (Nat.le_refl _) _).setCell (p:=⟨w.heap.size,2,none⟩) (Nat.le_refl _) _).setCell (p:=⟨w.heap.size,3,none⟩) (Nat.le_refl _) _).setCell (p:=⟨w.heap.size+1,0,none⟩) (Nat.le_succ _) _).setCell (p:=⟨w.heap.size+1,1,none⟩) (Nat.le_succ _) _
theorem name_word {s:ByteArray} {p:Nat} {X:ByteArray} (hX:X=nameX s p) (h:wordB X=true):(nameR s p).val=.tuple #[.agg #[.int .u8 2,.string X,.int .i64 0,.int .i64 p],.agg #[.int .i64 0,.int .i64 0]]:=by
 subst hX;unfold nameR;rw [if_pos h];rfl
theorem name_long {s:ByteArray} {p:Nat} {X:ByteArray} (hX:X=nameX s p) (h:wordB X=false) (h2:32<X.size):(nameR s p).val=.tuple #[.agg #[.int .u8 0,.string ⟨#[]⟩,.int .i64 0,.int .i64 0],.agg #[.int .i64 (p+32),.int .i64 2]]:=by
 subst hX;unfold nameR;rw [if_neg (by rw [h];decide),if_pos h2];rfl
theorem name_name {s:ByteArray} {p:Nat} {X:ByteArray} (hX:X=nameX s p) (h:wordB X=false) (h2:¬ 32<X.size):(nameR s p).val=.tuple #[.agg #[.int .u8 1,.string X,.int .i64 0,.int .i64 p],.agg #[.int .i64 0,.int .i64 0]]:=by
 subst hX;unfold nameR;rw [if_neg (by rw [h];decide),if_neg h2];rfl
theorem name_any (b:Nat) (s:ByteArray) (p:Nat) (fa fr:Int) (w:World) (T:LTabs w) (hs62:s.size≤281474976710656) (hp:p<s.size) (hs:Sc w b s p fa fr) :
 Calls Tryz.prog 144 #[.pointer (some ⟨b,0,none⟩)] w fun e w'=>e=.returned (nameR s p).val∧Below w.heap.size w w':=by
 have hlt:=hs.lt
 obtain ⟨⟨c0,c1,c2,c3⟩,f1,f2,f3⟩:=hs.cells
 have HS:=Lib.hid hs
 have HT:=Lib.hid T
 clear hs T
 obtain ⟨V,hV⟩:∃ V,Hid (V=(nameR s p).val):=⟨_,rfl⟩
 rw [← hV.out]
 go_enter Tryz.func144,Tryz.ntmps144
 go_wp2
 go_quiet (fail)
 obtain ⟨X0,hX0⟩:∃ X0,Hid (X0=s.extract p s.size):=⟨_,rfl⟩
 rw [← hX0.out]
 have hz0:X0.size≤281474976710656:=by rw [hX0.out];simp;omega
 obtain ⟨n,hn⟩:∃ n,Hid (n=spanN namedB (bytesFrom s p)):=⟨_,rfl⟩
 have hl0:X0.data.toList=bytesFrom s p:=by rw [hX0.out];exact tail_list s p
 have hnle:n≤X0.size:=by
  have:=spanN_le namedB (bytesFrom s p)
  rw [← hn.out,← hl0] at this
  simpa using this
 have H1:Hid (∀ W:World,Calls Tryz.prog 74 #[.string X0,.func (.func 75) #[] #[]] W fun e w'=>e=.returned (.int .i64 n)∧W=w'):=fun W=>by
  have k:=span_named X0 (by omega) W
  rw [hl0,← hn.out] at k
  exact k
 clear hl0
 go_wp2_with (go_at_call 74;refine (H1.out _).mono ?_;rintro e w' ⟨rfl,rfl⟩)
 obtain ⟨X,hX⟩:∃ X,Hid (X=X0.extract 0 n):=⟨_,rfl⟩
 rw [← hX.out]
 have hXn:Hid (X=nameX s p):=by rw [Hid,hX.out,hX0.out,hn.out];rfl
 have hzX:X.size≤281474976710656:=by rw [hX.out];simp;omega
 obtain ⟨q,hq⟩:∃ q,Hid (q=wordB X):=⟨_,rfl⟩
 have H2:Hid (∀ W:World,LTabs W→Calls Tryz.prog 73 #[.string X] W fun e w'=>e=.returned (.bool q)∧W=w'):=fun W TW=>by
  rw [hq.out];exact word_any X W TW
 refine (H2.out _ (HT.out.drew2 _ _ _)).mono ?_
 rintro e w' ⟨rfl,rfl⟩
 clear hz0 hnle H1 H2
 cases q
 · by_cases h32 : 32 < X.size
   · have hres : Hid (V = .tuple #[.agg #[.int .u8 0, .string ⟨#[]⟩, .int .i64 0, .int .i64 0], .agg #[.int .i64 (p + 32), .int .i64 2]]) := by rw [Hid, hV.out]; exact name_long hXn.out hq.out.symm h32
     go_wp2
     go_region
     all_goals
      go_wp2
      rw [hres.out]
      refine bodyPost_ret (v:=.tuple #[.agg #[.int .u8 0,.string ⟨#[]⟩,.int .i64 0,.int .i64 0],.agg #[.int .i64 (p+32),.int .i64 2]]) (by simp [results,Tryz.results144,go_sem]) rfl ⟨rfl,stored6 (drew2 _) _ _ _ _ _ _⟩
   · have hres : Hid (V = .tuple #[.agg #[.int .u8 1, .string X, .int .i64 0, .int .i64 p], .agg #[.int .i64 0, .int .i64 0]]) := by rw [Hid, hV.out]; exact name_name hXn.out hq.out.symm h32
     go_wp2_with (go_at_call 176;go_must (refine (token_lit b s X p fa fr 1 0 _ hzX (HS.out.drew2 _ _ _)).mono ?_;rintro e w1 ⟨rfl,hb⟩;obtain ⟨hA,hB,hz,hw⟩:=kept2 hb w tokZ faultZ rfl rfl rfl rfl;obtain ⟨⟨a0,a1,a2,a3⟩,a4,a5,a6,a7⟩:=row4 hA;obtain ⟨⟨b0,b1⟩,b2,b3⟩:=row2 hB;clear hA hB hb))
     rw [hres.out]
     refine bodyPost_ret (v:=.tuple #[.agg #[.int .u8 1,.string X,.int .i64 0,.int .i64 p],.agg #[.int .i64 0,.int .i64 0]]) (by simp [results,Tryz.results144,go_sem,a0,a1,a2,a3,b0,b1]) rfl ⟨rfl,stored6 hw _ _ _ _ _ _⟩
 · have hres : Hid (V = .tuple #[.agg #[.int .u8 2, .string X, .int .i64 0, .int .i64 p], .agg #[.int .i64 0, .int .i64 0]]) := by rw [Hid, hV.out]; exact name_word hXn.out hq.out.symm
   go_wp2_with (go_at_call 176;go_must (refine (token_lit b s X p fa fr 2 0 _ hzX (HS.out.drew2 _ _ _)).mono ?_;rintro e w1 ⟨rfl,hb⟩;obtain ⟨hA,hB,hz,hw⟩:=kept2 hb w tokZ faultZ rfl rfl rfl rfl;obtain ⟨⟨a0,a1,a2,a3⟩,a4,a5,a6,a7⟩:=row4 hA;obtain ⟨⟨b0,b1⟩,b2,b3⟩:=row2 hB;clear hA hB hb))
   rw [hres.out]
   refine bodyPost_ret (v:=.tuple #[.agg #[.int .u8 2,.string X,.int .i64 0,.int .i64 p],.agg #[.int .i64 0,.int .i64 0]]) (by simp [results,Tryz.results144,go_sem,a0,a1,a2,a3,b0,b1]) rfl ⟨rfl,stored6 hw _ _ _ _ _ _⟩
open Go.RowKit
set_option linter.unusedVariables false
theorem prefix_len {p l:List UInt8} (h:Lib.hasPrefix l p=true):p.length≤l.length:=by
 have h':p.isPrefixOf l=true:=h
 exact (List.isPrefixOf_iff_prefix.1 h').length_le
theorem ahead_le (l:List UInt8):aheadN l≤l.length:=by
 unfold aheadN
 split
 · rename_i h
   unfold longB at h
   simp only [Bool.or_eq_true] at h
   have key:∀ k,k<6→Lib.hasPrefix l (longAt k).data.toList=true→2≤l.length:=by
    intro k hk hp
    have h1:=prefix_len hp
    have h2:(longAt k).data.toList.length=2:=by
     have:k=0∨k=1∨k=2∨k=3∨k=4∨k=5:=by omega
     rcases this with rfl | rfl | rfl | rfl | rfl | rfl <;> rfl
    omega
   rcases h with ((((h | h) | h) | h) | h) | h
   · exact key 0 (by omega) h
   · exact key 1 (by omega) h
   · exact key 2 (by omega) h
   · exact key 3 (by omega) h
   · exact key 4 (by omega) h
   · exact key 5 (by omega) h
 · unfold firstN
   split
   · exact Nat.zero_le _
   · split <;> simp
def signX (s:ByteArray) (p:Nat):ByteArray:=(s.extract p s.size).extract 0 (aheadN (bytesFrom s p))
def signR (s:ByteArray) (p:Nat):Res:=⟨4,signX s p,0,p,0,0⟩
theorem sign_at (b:Nat) (s:ByteArray) (p:Nat) (fa fr:Int) (w:World) (T:LTabs w) (hs62:s.size≤281474976710656) (hp:p<s.size) (hs:Sc w b s p fa fr) :
 Calls Tryz.prog 147 #[.pointer (some ⟨b,0,none⟩)] w fun e w'=>e=.returned (signR s p).val∧Below w.heap.size w w':=by
 have hlt:=hs.lt
 obtain ⟨⟨c0,c1,c2,c3⟩,f1,f2,f3⟩:=hs.cells
 have HS:=Lib.hid hs
 have HT:=Lib.hid T
 clear hs T
 obtain ⟨V,hV⟩:∃ V,Hid (V=(signR s p).val):=⟨_,rfl⟩
 rw [← hV.out]
 go_enter Tryz.func147,Tryz.ntmps147
 go_wp2
 go_quiet (fail)
 obtain ⟨X0,hX0⟩:∃ X0,Hid (X0=s.extract p s.size):=⟨_,rfl⟩
 rw [← hX0.out]
 have hz0:X0.size≤281474976710656:=by rw [hX0.out];simp;omega
 obtain ⟨n,hn⟩:∃ n,Hid (n=aheadN (bytesFrom s p)):=⟨_,rfl⟩
 have hl0:X0.data.toList=bytesFrom s p:=by rw [hX0.out];exact tail_list s p
 have hnle:n≤X0.size:=by
  have:=ahead_le (bytesFrom s p)
  rw [← hn.out,← hl0] at this
  simpa using this
 have H1:Hid (∀ W:World,LTabs W→Calls Tryz.prog 179 #[.string X0] W fun e w'=>e=.returned (.int .i64 n)∧W=w'):=fun W TW=>by
  have k:=ahead_any X0 W TW
  rw [hl0,← hn.out] at k
  exact k
 clear hl0
 go_wp2_with (go_at_call 179;refine (H1.out _ (HT.out.drew2 _ _ _)).mono ?_;rintro e w' ⟨rfl,rfl⟩)
 obtain ⟨X,hX⟩:∃ X,Hid (X=X0.extract 0 n):=⟨_,rfl⟩
 rw [← hX.out]
 have hzX:X.size≤281474976710656:=by rw [hX.out];simp;omega
 have hres:Hid (V=.tuple #[.agg #[.int .u8 4,.string X,.int .i64 0,.int .i64 p],.agg #[.int .i64 0,.int .i64 0]]):=by
  rw [Hid,hV.out,show X=signX s p by rw [hX.out,hX0.out,hn.out];rfl];rfl
 clear hz0 hnle H1
 refine (token_lit b s X p fa fr 4 0 _ hzX (HS.out.drew2 _ _ _)).mono ?_
 rintro e w1 ⟨rfl,hb⟩
 obtain ⟨hA,hB,hz,hw⟩:=kept2 hb w tokZ faultZ rfl rfl rfl rfl
 obtain ⟨⟨a0,a1,a2,a3⟩,a4,a5,a6,a7⟩:=row4 hA
 obtain ⟨⟨b0,b1⟩,b2,b3⟩:=row2 hB
 clear hA hB hb
 go_wp2
 rw [hres.out]
 refine bodyPost_ret (v:=.tuple #[.agg #[.int .u8 4,.string X,.int .i64 0,.int .i64 p],.agg #[.int .i64 0,.int .i64 0]]) (by simp [results,Tryz.results147,go_sem,a0,a1,a2,a3,b0,b1]) rfl ⟨rfl,stored6 hw _ _ _ _ _ _⟩
def numX (s:ByteArray) (p:Nat):ByteArray:=(s.extract p s.size).extract 0 (spanN digitB (bytesFrom s p))
def behindB (s:ByteArray) (p:Nat):Bool:=decide (p+spanN digitB (bytesFrom s p)<s.size)&&letterB (PlainAid.bt s (p+spanN digitB (bytesFrom s p)))
def numC (s:ByteArray) (p n:Nat) (X:ByteArray):Option Int→Res
 | none=>⟨0,⟨#[]⟩,0,0,p,3⟩
 | some v=>if behindB s p=true then ⟨0,⟨#[]⟩,0,0,p+(n:Nat),4⟩ else ⟨3,X,v,p,0,0⟩
def numR (s:ByteArray) (p:Nat):Res:=numC s p (spanN digitB (bytesFrom s p)) (numX s p) (valueO (numX s p).data.toList)
theorem bt_extract (s:ByteArray) (p n:Nat) (h:p+n<s.size):PlainAid.bt (s.extract p s.size) n=PlainAid.bt s (p+n):=by
 have h1:n<(s.extract p s.size).size:=by simp;omega
 have e1:=PlainAid.get_bt (s.extract p s.size) n h1
 have e2:=PlainAid.get_bt s (p+n) h
 rw [← e1,← e2]
 rw [ByteArray.getElem_extract]
theorem number_any (b:Nat) (s:ByteArray) (p:Nat) (fa fr:Int) (w:World) (hs62:s.size≤281474976710656) (hp:p<s.size) (hs:Sc w b s p fa fr) :
 Calls Tryz.prog 145 #[.pointer (some ⟨b,0,none⟩)] w fun e w'=>e=.returned (numR s p).val∧Below w.heap.size w w':=by
 have hlt:=hs.lt
 obtain ⟨⟨c0,c1,c2,c3⟩,f1,f2,f3⟩:=hs.cells
 have HS:=Lib.hid hs
 clear hs
 obtain ⟨V,hV⟩:∃ V,Hid (V=(numR s p).val):=⟨_,rfl⟩
 rw [← hV.out]
 go_enter Tryz.func145,Tryz.ntmps145
 go_wp2
 go_quiet (fail)
 obtain ⟨X0,hX0⟩:∃ X0,Hid (X0=s.extract p s.size):=⟨_,rfl⟩
 rw [← hX0.out]
 have hz0:X0.size≤281474976710656:=by rw [hX0.out];simp;omega
 obtain ⟨n,hn⟩:∃ n,Hid (n=spanN digitB (bytesFrom s p)):=⟨_,rfl⟩
 have hl0:X0.data.toList=bytesFrom s p:=by rw [hX0.out];exact tail_list s p
 have hnle:n≤X0.size:=by
  have:=spanN_le digitB (bytesFrom s p)
  rw [← hn.out,← hl0] at this
  simpa using this
 have H1:Hid (∀ W:World,Calls Tryz.prog 74 #[.string X0,.func (.func 72) #[] #[]] W fun e w'=>e=.returned (.int .i64 n)∧W=w'):=fun W=>by
  have k:=span_digit X0 (by omega) W
  rw [hl0,← hn.out] at k
  exact k
 clear hl0
 go_wp2_with (go_at_call 74;refine (H1.out _).mono ?_;rintro e w' ⟨rfl,rfl⟩)
 obtain ⟨X,hX⟩:∃ X,Hid (X=X0.extract 0 n):=⟨_,rfl⟩
 rw [← hX.out]
 have hXn:Hid (X=numX s p):=by rw [Hid,hX.out,hX0.out,hn.out];rfl
 have hzX:X.size≤281474976710656:=by rw [hX.out];simp;omega
 have hsz0:X0.size=s.size-p:=by rw [hX0.out];simp
 obtain ⟨o,ho⟩:∃ o,Hid (o=valueO X.data.toList):=⟨_,rfl⟩
 have H2:Hid (∀ W:World,Calls Tryz.prog 177 #[.string X] W fun e w'=>e=.returned (ValueV o)∧W=w'):=fun W=>by
  rw [ho.out];exact value_any X (by omega) W
 have hnum:Hid (numR s p=numC s p n X o):=by
  have e:numR s p=numC s p (spanN digitB (bytesFrom s p)) (numX s p) (valueO (numX s p).data.toList):=rfl
  rw [Hid,e,← hn.out,← hXn.out,← ho.out]
 cases o with
 | none =>
   have hres:Hid (V=.tuple #[.agg #[.int .u8 0,.string ⟨#[]⟩,.int .i64 0,.int .i64 0],.agg #[.int .i64 p,.int .i64 3]]):=by rw [Hid,hV.out,hnum.out];rfl
   have H3:Hid (∀ W:World,Calls Tryz.prog 177 #[.string X] W fun e w'=>e=.returned (.tuple #[.int .i64 0,.bool false])∧W=w'):=H2
   clear H2 hsz0
   refine (H3.out _).mono ?_
   rintro e w' ⟨rfl,rfl⟩
   go_wp2
   go_region
   all_goals
    go_wp2
    rw [hres.out]
    refine bodyPost_ret (v:=.tuple #[.agg #[.int .u8 0,.string ⟨#[]⟩,.int .i64 0,.int .i64 0],.agg #[.int .i64 p,.int .i64 3]]) (by simp [results,Tryz.results145,go_sem]) rfl ⟨rfl,stored6 (drew2 _) _ _ _ _ _ _⟩
 | some v =>
   have H3:Hid (∀ W:World,Calls Tryz.prog 177 #[.string X] W fun e w'=>e=.returned (.tuple #[.int .i64 v,.bool true])∧W=w'):=H2
   clear H2
   by_cases hlast:n<X0.size
   · obtain ⟨c, hc⟩ : ∃ c, Hid (c = PlainAid.bt X0 n) := ⟨_, rfl⟩
     have hbt:∀ h:n<X0.size,((X0[n]'h).toNat:Int)=c:=fun h=>by rw [hc.out];exact PlainAid.get_bt X0 n h
     have hx0:0≤c:=by rw [hc.out];exact PlainAid.bt_nonneg X0 n
     have hx1:c≤255:=by rw [hc.out];exact PlainAid.bt_le X0 n
     obtain ⟨q,hq⟩:∃ q,Hid (q=letterB c):=⟨_,rfl⟩
     have H4:Hid (∀ W:World,Calls Tryz.prog 112 #[.int .u8 c] W fun e w'=>e=.returned (.bool q)∧W=w'):=fun W=>by
      rw [hq.out];exact letter_any c hx0 hx1 W
     have hbe:Hid (behindB s p=q):=by
      rw [Hid];unfold behindB
      rw [← hn.out,b_t (show p+n<s.size by omega),hq.out,hc.out,hX0.out,bt_extract s p n (by omega)]
      rfl
     clear hsz0
     cases q
     · have hres : Hid (V = .tuple #[.agg #[.int .u8 3, .string X, .int .i64 v, .int .i64 p], .agg #[.int .i64 0, .int .i64 0]]) := by
        rw [Hid,hV.out,hnum.out];unfold numC;simp only [];rw [if_neg (by rw [hbe.out];decide)];rfl
       refine (H3.out _).mono ?_
       rintro e w' ⟨rfl,rfl⟩
       go_wp2_with (first | (go_at_call 112;refine (H4.out _).mono ?_;rintro e w' ⟨rfl,rfl⟩))
       rw [← hX.out]
       refine (token_lit b s X p fa fr 3 v _ hzX (HS.out.drew2 _ _ _)).mono ?_
       rintro e w1 ⟨rfl,hb⟩
       obtain ⟨hA,hB,hz,hw⟩:=kept2 hb w tokZ faultZ rfl rfl rfl rfl
       obtain ⟨⟨a0,a1,a2,a3⟩,a4,a5,a6,a7⟩:=row4 hA
       obtain ⟨⟨b0,b1⟩,b2,b3⟩:=row2 hB
       clear hA hB hb
       go_wp2
       rw [hres.out]
       refine bodyPost_ret (v:=.tuple #[.agg #[.int .u8 3,.string X,.int .i64 v,.int .i64 p],.agg #[.int .i64 0,.int .i64 0]]) (by simp [results,Tryz.results145,go_sem,a0,a1,a2,a3,b0,b1]) rfl ⟨rfl,stored6 hw _ _ _ _ _ _⟩
     · have hres : Hid (V = .tuple #[.agg #[.int .u8 0, .string ⟨#[]⟩, .int .i64 0, .int .i64 0], .agg #[.int .i64 (p + n), .int .i64 4]]) := by
        rw [Hid,hV.out,hnum.out];unfold numC;simp only [];rw [if_pos hbe.out];rfl
       have esum:IntKind.i64.wrap ((p:Int)+(n:Int))=(p:Int)+(n:Int):=IntWalk.i64_in _ (by omega)
       refine (H3.out _).mono ?_
       rintro e w' ⟨rfl,rfl⟩
       go_wp2_with (first | (go_at_call 112;refine (H4.out _).mono ?_;rintro e w' ⟨rfl,rfl⟩))
       go_region
       all_goals
        go_wp2
        rw [hres.out]
        refine bodyPost_ret (v:=.tuple #[.agg #[.int .u8 0,.string ⟨#[]⟩,.int .i64 0,.int .i64 0],.agg #[.int .i64 (p+n),.int .i64 4]]) (by simp [results,Tryz.results145,go_sem]) rfl ⟨rfl,stored6 (drew2 _) _ _ _ _ _ _⟩
   · have hbe : Hid (behindB s p = false) := by
      rw [Hid];unfold behindB
      rw [← hn.out,b_f (show ¬ p+n<s.size by omega)]
      rfl
     have hres:Hid (V=.tuple #[.agg #[.int .u8 3,.string X,.int .i64 v,.int .i64 p],.agg #[.int .i64 0,.int .i64 0]]):=by
      rw [Hid,hV.out,hnum.out];unfold numC;simp only [];rw [if_neg (by rw [hbe.out];decide)];rfl
     clear hsz0
     refine (H3.out _).mono ?_
     rintro e w' ⟨rfl,rfl⟩
     go_wp2_with fail
     rw [← hX.out]
     refine (token_lit b s X p fa fr 3 v _ hzX (HS.out.drew2 _ _ _)).mono ?_
     rintro e w1 ⟨rfl,hb⟩
     obtain ⟨hA,hB,hz,hw⟩:=kept2 hb w tokZ faultZ rfl rfl rfl rfl
     obtain ⟨⟨a0,a1,a2,a3⟩,a4,a5,a6,a7⟩:=row4 hA
     obtain ⟨⟨b0,b1⟩,b2,b3⟩:=row2 hB
     clear hA hB hb
     go_wp2
     rw [hres.out]
     refine bodyPost_ret (v:=.tuple #[.agg #[.int .u8 3,.string X,.int .i64 v,.int .i64 p],.agg #[.int .i64 0,.int .i64 0]]) (by simp [results,Tryz.results145,go_sem,a0,a1,a2,a3,b0,b1]) rfl ⟨rfl,stored6 hw _ _ _ _ _ _⟩
end Go.Proofs.YtggbkldniffbfaaGreatDoor

import Derived.Test.YtbgfkdiihnidaaaGreatDoorQAA
import Derived.Deep.RegionWith
import Derived.Deep.QuietTactic
import Derived.BigQuiet
import Derived.Deep.DeepMust
import Derived.RegionTactic
import Derived.ChangeAlike
import Derived.WalkSpells
import Derived.Laws.EntriesVeiled
import Derived.Outline
set_option maxRecDepth 100000
set_option maxHeartbeats 20000000
namespace Go.Proofs.YtbgfkdiihnidaaaGreatDoor
open Go.RowKit
set_option linter.unusedVariables false
def digitsV:List UInt8->Int->Option Int
 | [],v=>some v
 | c::r,v=>if digitB (c.toNat:Int)=false then none else if (9223372036854775807-((c.toNat:Int)-48)) / 10<v then none else digitsV r (v*10+((c.toNat:Int)-48))
def valueO (l:List UInt8):Option Int:=match l with
 | []=>none
 | c::r=>if (c.toNat:Int)=48/\r≠[] then none else digitsV (c::r) 0
def ValueV (o:Option Int):Value:=.tuple #[.int .i64 (o.getD 0),.bool o.isSome]
theorem value_none (w:World):Calls Tryz.prog 166 #[.string ⟨#[]⟩] w fun e w'=>e=.returned (ValueV none)/\w=w':=by
 go_enter Tryz.func166,Tryz.ntmps166;go_wp2;go_ret2;exact ⟨rfl,rfl⟩
theorem value_nought (s:ByteArray) (w:World) (h0:1<s.size) (h48:PlainAid.bt s 0=48):Calls Tryz.prog 166 #[.string s] w fun e w'=>e=.returned (ValueV none)/\w=w':=by
 have a:∀ h:0<s.size,((s[0]'h).toNat:Int)=48:=fun h=>by rw [<- h48];exact PlainAid.get_bt s 0 h
 have b:s.toList.isEmpty=false:=by
  rw [Lib.toList_data,show s.data.toList=s[0]::bytesFrom s 1 from from_at s 0 (by omega)];rfl
 clear h48;go_enter Tryz.func166,Tryz.ntmps166;go_wp2;go_ret2;exact ⟨rfl,rfl⟩
theorem digitsV_no {c:Int} {u:UInt8} {r:List UInt8} {v:Int} (hu:(u.toNat:Int)=c) (h:digitB c=false\/(9223372036854775807-(c-48)) / 10<v):digitsV (u::r) v=none:=by
 subst hu;simp only [digitsV];rcases h with h | h
 · rw [if_pos h]
 · by_cases h2 : digitB (u.toNat : Int) = false
   · rw [if_pos h2]
   · rw [if_neg h2,if_pos h]
theorem digitsV_yes {c:Int} {u:UInt8} {r:List UInt8} {v:Int} (hu:(u.toNat:Int)=c) (h:digitB c=true) (h2:¬ (9223372036854775807-(c-48)) / 10<v):digitsV (u::r) v=digitsV r (v*10+(c-48)):=by
 subst hu;simp only [digitsV];rw [if_neg (by rw [h];decide),if_neg h2]
theorem digitB_bd {c:Int} (h:digitB c=true):48<=c/\c<=57:=by simpa [digitB] using h
theorem value_loop (s:ByteArray) (w:World) (hs:s.size<=4611686018427387904) (h0:0<s.size) (hq:s.size<=1\/¬ PlainAid.bt s 0=48):Calls Tryz.prog 166 #[.string s] w fun e w'=>e=.returned (ValueV (digitsV s.data.toList 0))/\w=w':=by
 obtain ⟨R,q⟩:=Qx (digitsV s.data.toList 0);rw [<- q];have y:=Hd q;clear q;have p:=PlainAid.get_bt s;have B:s.toList.isEmpty=false:=by
  rw [Lib.toList_data,show s.data.toList=s[0]::bytesFrom s 1 from from_at s 0 (by omega)];rfl
 have n:∀ K:Prop,(s.size<=1->K)->(1<s.size->(PlainAid.bt s 0==48)=false->K)->K:=fun K a b=>by
  by_cases h1:s.size<=1
  · exact a h1
  · exact b (by omega) (int_f (by omega))
 clear hq;apply n
 all_goals
  clear n;intros;go_enter Tryz.func166,Tryz.ntmps166;go_wp2_with fail;go_loop [4,21] (fun v i=>∃ (k:Nat) (z:Int),k<=s.size/\i=.int .i64 k/\v=.int .i64 z/\0<=z/\z<=9223372036854775807/\Hid (digitsV (bytesFrom s k) z=R)) (fun _ i=>s.size-(intOf i).toNat)
  case atStart=>exact ⟨0,0,Nat.zero_le _,rfl,rfl,by decide,by decide,y.out.symm⟩
  case round =>
   obtain ⟨k,z,E,rfl,rfl,C,D,f⟩:=hrel;by_cases hlt:k<s.size
   · have m := PlainAid.bt_nonneg s k
     have o:=PlainAid.bt_le s k;have l:((s[k]).toNat:Int)=PlainAid.bt s k:=PlainAid.get_bt s k hlt;have d:=from_at s k hlt;obtain ⟨c,r⟩:=Qx (PlainAid.bt s k);have t:∀ h:k<s.size,((s[k]'h).toNat:Int)=c:=fun h=>by rw [r];exact PlainAid.get_bt s k h
     rw [<- r] at l m o;clear r p;have H:=Hd (fun w=>digit_any c m o w)
     by_cases hd:digitB c=true
     · have x := digitB_bd hd
       by_cases hov:(9223372036854775807-(c-48)) / 10<z
       · have j : Hid (R = none) := by rw [Hid, <- f.out, d, digitsV_no l (.inr hov)]
         rw [hd] at H;clear d l f hd;go_wp2_with (go_at_call 54;refine (H.out _).mono ?_;rintro e w' ⟨rfl,rfl⟩);go_ret2;rw [j.out];exact ⟨rfl,rfl⟩
       · have j : Hid (digitsV (bytesFrom s (k + 1)) (z * 10 + (c - 48)) = R) := by rw [Hid, <- f.out, d, digitsV_yes l hd hov]
         have A:z*10+(c-48)<=9223372036854775807/\0<=z*10+(c-48):=by omega
         rw [hd] at H;clear d l f hd;go_wp2_with (go_at_call 54;refine (H.out _).mono ?_;rintro e w' ⟨rfl,rfl⟩);go_round
         case rel=>exact ⟨k+1,z*10+(c-48),by omega,by go_num,rfl,by omega,by omega,j⟩
         case measure=>simp [intOf];omega
     · have g : digitB c = false := by simpa using hd
       have j:Hid (R=none):=by rw [Hid,<- f.out,d,digitsV_no l (.inl g)]
       rw [g] at H;clear d l f hd g;go_wp2_with (go_at_call 54;refine (H.out _).mono ?_;rintro e w' ⟨rfl,rfl⟩);go_ret2;rw [j.out];exact ⟨rfl,rfl⟩
   · have j : Hid (R = some z) := by
      rw [Hid,<- f.out,from_end s k (by omega)];rfl
     clear f;go_wp2_with fail;go_ret2;rw [j.out];exact ⟨rfl,rfl⟩
theorem value_any (s:ByteArray) (hs:s.size<=4611686018427387904) (w:World):Calls Tryz.prog 166 #[.string s] w fun e w'=>e=.returned (ValueV (valueO s.data.toList))/\w=w':=by
 by_cases h0:0<s.size
 · have b : s.data.toList = s[0] :: bytesFrom s 1 := from_at s 0 h0
   have g:((s[0]).toNat:Int)=PlainAid.bt s 0:=PlainAid.get_bt s 0 h0;have f:(bytesFrom s 1≠[])↔1<s.size:=by
    have:(bytesFrom s 1).length=s.size-1:=by unfold bytesFrom;simp
    constructor
    · intro h
      apply Nat.lt_of_not_le;intro a;exact h (List.length_eq_zero_iff.1 (by omega))
    · intro h a
      rw [a] at this;simp at this;omega
   by_cases h:1<s.size/\PlainAid.bt s 0=48
   · have e : valueO s.data.toList = none := by
      rw [b];unfold valueO;simp only [];rw [if_pos ⟨g.trans h.2,f.2 h.1⟩]
     rw [e];exact value_nought s w h.1 h.2
   · have e : valueO s.data.toList = digitsV s.data.toList 0 := by
      rw [b];unfold valueO;simp only [];rw [if_neg (fun a=>h ⟨f.1 a.2,g.symm.trans a.1⟩)]
     rw [e]
     exact value_loop s w hs h0 (by
      by_cases c:s.size<=1
      · exact .inl c
      · exact .inr fun a=>h ⟨by omega,a⟩)
 · have j : s = ⟨#[]⟩ := by
    cases s with
    | mk d =>
      have c:(ByteArray.mk d).size=0:=by omega
      have i:d.size=0:=c;simp at i;rw [i]
   subst j;exact value_none w
theorem clone_any (s:ByteArray) (hs:s.size<=281474976710656) (w:World):Calls Tryz.prog 63 #[.string s] w fun e w'=>e=.returned (.string s)/\Below w.heap.size w w':=by
 have H:=Hd (Go.Proofs.Tryz.stringslite_Clone s w hs);go_enter Tryz.func63,Tryz.ntmps63;go_wp2_with (go_at_call 124;refine (H.out).mono ?_;rintro e w' ⟨rfl,a⟩);go_ret;exact ⟨rfl,a⟩
def Sc (W:World) (b:Nat) (s:ByteArray) (p fa fr:Int):Prop:=W.heap[b]? = some (.cells #[.string s,.int .i64 p,.int .i64 fa,.int .i64 fr] 85 (0,0))
theorem Sc.lt {W:World} {b:Nat} {s:ByteArray} {p fa fr:Int} (h:Sc W b s p fa fr):b<W.heap.size:=(Array.getElem?_eq_some_iff.1 h).1
theorem Sc.cells {W:World} {b:Nat} {s:ByteArray} {p fa fr:Int} (h:Sc W b s p fa fr) :
 (W.cell? ⟨b,0,none⟩=some (.string s)/\W.cell? ⟨b,1,none⟩=some (.int .i64 p)/\W.cell? ⟨b,2,none⟩=some (.int .i64 fa)/\W.cell? ⟨b,3,none⟩=some (.int .i64 fr)) /\
 (W.frozen? ⟨b,1,none⟩=false/\W.frozen? ⟨b,2,none⟩=false/\W.frozen? ⟨b,3,none⟩=false) :=
 ⟨⟨cell_of_row W b 0 _ _ _ h,cell_of_row W b 1 _ _ _ h,cell_of_row W b 2 _ _ _ h,cell_of_row W b 3 _ _ _ h⟩,frozen_of_row W b 1 _ _ h,frozen_of_row W b 2 _ _ h,frozen_of_row W b 3 _ _ h⟩
theorem Sc.below {W W':World} {b B:Nat} {s:ByteArray} {p fa fr:Int} (h:Sc W b s p fa fr) (hb:Below B W W') (hB:b<B):Sc W' b s p fa fr:=(hb.block b hB).trans h
def tokV (kind:Int) (x:ByteArray) (wd p:Int):Value:=.agg #[.int .u8 kind,.string x,.int .i64 wd,.int .i64 p]
def faultV (a r:Int):Value:=.agg #[.int .i64 a,.int .i64 r]
theorem kept2 {W w1:World} (hb:Below W.heap.size W w1) (w:World) (A B:Obj) (hW:W.heap=((w.alloc A).alloc B).heap) (hos:W.os=w.os) (htape:W.tape=w.tape) (hout:W.output=w.output) :
 w1.heap[w.heap.size]? = some A/\w1.heap[w.heap.size+1]? = some B/\w.heap.size+1<w1.heap.size/\Below w.heap.size w w1:=by
 have f:W.heap.size=w.heap.size+2:=by rw [hW];simp
 have d:W.heap[w.heap.size]? = some A:=by rw [hW];exact heap_alloc2_old w A B
 have a:W.heap[w.heap.size+1]? = some B:=by rw [hW];exact heap_alloc2_new w A B
 refine ⟨(hb.block _ (by omega)).trans d,(hb.block _ (by omega)).trans a,by have:=hb.size;omega,hb.os.trans hos,hb.tape.trans htape,hb.output.trans hout,by have:=hb.size;omega,fun k hk=>?_⟩
 rw [hb.block k (by omega),hW]
 have b:=Below.heap_alloc w A k hk;have c:=Below.heap_alloc (w.alloc A) B k (by simp;omega)
 rw [c,b]
theorem row4 {w:World} {g:Nat} {a b c d:Value} {t:TypeId} (h:w.heap[g]? = some (.cells #[a,b,c,d] t (0,0))) :
 (w.cell? ⟨g,0,none⟩=some a/\w.cell? ⟨g,1,none⟩=some b/\w.cell? ⟨g,2,none⟩=some c/\w.cell? ⟨g,3,none⟩=some d)/\w.frozen? ⟨g,0,none⟩=false/\w.frozen? ⟨g,1,none⟩=false/\w.frozen? ⟨g,2,none⟩=false/\w.frozen? ⟨g,3,none⟩=false :=
 ⟨⟨cell_of_row w g 0 _ _ _ h,cell_of_row w g 1 _ _ _ h,cell_of_row w g 2 _ _ _ h,cell_of_row w g 3 _ _ _ h⟩,frozen_of_row w g 0 _ _ h,frozen_of_row w g 1 _ _ h,frozen_of_row w g 2 _ _ h,frozen_of_row w g 3 _ _ h⟩
theorem row2 {w:World} {g:Nat} {a b:Value} {t:TypeId} (h:w.heap[g]? = some (.cells #[a,b] t (0,0))) :
 (w.cell? ⟨g,0,none⟩=some a/\w.cell? ⟨g,1,none⟩=some b)/\w.frozen? ⟨g,0,none⟩=false/\w.frozen? ⟨g,1,none⟩=false :=
 ⟨⟨cell_of_row w g 0 _ _ _ h,cell_of_row w g 1 _ _ _ h⟩,frozen_of_row w g 0 _ _ h,frozen_of_row w g 1 _ _ h⟩
def tokZ:Obj:=.cells #[.int .u8 0,.string ⟨#[]⟩,.int .i64 0,.int .i64 0] 50
def faultZ:Obj:=.cells #[.int .i64 0,.int .i64 0] 29
theorem token_any (b:Nat) (s x:ByteArray) (p fa fr kind wd:Int) (w:World) (hx:x.size<=281474976710656) (hs:Sc w b s p fa fr) :
 Calls Tryz.prog 165 #[.pointer (some ⟨b,0,none⟩),.int .u8 kind,.string x,.int .i64 wd] w fun e w'=>e=.returned (.tuple #[tokV kind x wd p,faultV 0 0])/\Below w.heap.size w w':=by
 have a:=hs.lt;obtain ⟨⟨E,m,D,q⟩,K,y,G⟩:=hs.cells;have H:=Hd (fun w=>clone_any x hx w)
 clear hs hx;go_enter Tryz.func165,Tryz.ntmps165;go_wp2_with fail;go_region_with (go_at_call 63;go_must (refine (H.out _).mono ?_;rintro e z ⟨rfl,f⟩;obtain ⟨c,d,t,g⟩:=kept2 f w tokZ faultZ rfl rfl rfl rfl;obtain ⟨⟨o,l,j,i⟩,r,B,J,C⟩:=row4 c;obtain ⟨⟨k,n⟩,F,I⟩:=row2 d;have A:=cb g a m;clear c d f))
 all_goals
  go_wp2;refine bodyPost_ret (v:=.tuple #[.agg #[.int .u8 kind,.string x,.int .i64 wd,.int .i64 p],.agg #[.int .i64 0,.int .i64 0]]) (by simp [results,Tryz.results165,go_sem,o,l,j,i,k,n]) rfl ⟨rfl,?_⟩
  exact (((((g.setCell (p:=⟨w.heap.size,0,none⟩) (Nat.le_refl _) _).setCell (p:=⟨w.heap.size,1,none⟩) (Nat.le_refl _) _).setCell (p:=⟨w.heap.size,2,none⟩) (Nat.le_refl _) _).setCell (p:=⟨w.heap.size,3,none⟩) (Nat.le_refl _) _).setCell (p:=⟨w.heap.size+1,0,none⟩) (Nat.le_succ _) _).setCell (p:=⟨w.heap.size+1,1,none⟩) (Nat.le_succ _) _
structure Res where
 kind:Int
 text:ByteArray
 wd:Int
 place:Int
 fa:Int
 fr:Int
def Res.val (r:Res):Value:=.tuple #[tokV r.kind r.text r.wd r.place,faultV r.fa r.fr]
theorem drew2 {w:World} {A B:Obj} (n:Nat):Below w.heap.size w (((w.alloc A).alloc B).drewN n):=by
 have h:=((Below.refl w.heap.size w).alloc (Nat.le_refl _) A).alloc (by simp) B
 exact ⟨h.os,h.tape,h.output,h.size,h.block⟩
theorem LTabs.drew2 {w:World} (T:LTabs w) (A B:Obj) (n:Nat):LTabs (((w.alloc A).alloc B).drewN n):=T.below (Nat.le_refl _) (Proofs.YtbgfkdiihnidaaaGreatDoor.drew2 n)
theorem Sc.drew2 {w:World} {b:Nat} {s:ByteArray} {p fa fr:Int} (h:Sc w b s p fa fr) (A B:Obj) (n:Nat):Sc (((w.alloc A).alloc B).drewN n) b s p fa fr:=h.below (Proofs.YtbgfkdiihnidaaaGreatDoor.drew2 n) h.lt
theorem tail_list (s:ByteArray) (p:Nat):(s.extract p s.size).data.toList=bytesFrom s p:=by
 rw [Lib.extract_data];unfold bytesFrom;rw [List.take_of_length_le (by simp)]
def nameX (s:ByteArray) (p:Nat):ByteArray:=(s.extract p s.size).extract 0 (spanN namedB (bytesFrom s p))
def nameR (s:ByteArray) (p:Nat):Res :=
 if wordB (nameX s p)=true then ⟨2,nameX s p,0,p,0,0⟩
 else if 32<(nameX s p).size then ⟨0,⟨#[]⟩,0,0,p+32,2⟩
 else ⟨1,nameX s p,0,p,0,0⟩
theorem token_lit (b:Nat) (s x:ByteArray) (p fa fr kind wd:Int) (w:World) (hx:x.size<=281474976710656) (hs:Sc w b s p fa fr) :
 Calls Tryz.prog 165 #[.pointer (some ⟨b,0,none⟩),.int .u8 kind,.string x,.int .i64 wd] w fun e w'=>e=.returned (.tuple #[.agg #[.int .u8 kind,.string x,.int .i64 wd,.int .i64 p],.agg #[.int .i64 0,.int .i64 0]])/\Below w.heap.size w w' :=
 token_any b s x p fa fr kind wd w hx hs
theorem stored6 {w w1:World} (hw:Below w.heap.size w w1) (u0 u1 u2 u3 v0 v1:Value):Below w.heap.size w ((((((w1.setCell ⟨w.heap.size,0,none⟩ u0).setCell ⟨w.heap.size,1,none⟩ u1).setCell ⟨w.heap.size,2,none⟩ u2).setCell ⟨w.heap.size,3,none⟩ u3).setCell ⟨w.heap.size+1,0,none⟩ v0).setCell ⟨w.heap.size+1,1,none⟩ v1) :=
 (((((hw.setCell (p:=⟨w.heap.size,0,none⟩) (Nat.le_refl _) _).setCell (p:=⟨w.heap.size,1,none⟩) (Nat.le_refl _) _).setCell (p:=⟨w.heap.size,2,none⟩) (Nat.le_refl _) _).setCell (p:=⟨w.heap.size,3,none⟩) (Nat.le_refl _) _).setCell (p:=⟨w.heap.size+1,0,none⟩) (Nat.le_succ _) _).setCell (p:=⟨w.heap.size+1,1,none⟩) (Nat.le_succ _) _
theorem name_word {s:ByteArray} {p:Nat} {X:ByteArray} (hX:X=nameX s p) (h:wordB X=true):(nameR s p).val=.tuple #[.agg #[.int .u8 2,.string X,.int .i64 0,.int .i64 p],.agg #[.int .i64 0,.int .i64 0]]:=by
 subst hX;unfold nameR;rw [if_pos h];rfl
theorem name_long {s:ByteArray} {p:Nat} {X:ByteArray} (hX:X=nameX s p) (h:wordB X=false) (h2:32<X.size):(nameR s p).val=.tuple #[.agg #[.int .u8 0,.string ⟨#[]⟩,.int .i64 0,.int .i64 0],.agg #[.int .i64 (p+32),.int .i64 2]]:=by
 subst hX;unfold nameR;rw [if_neg (by rw [h];decide),if_pos h2];rfl
theorem name_name {s:ByteArray} {p:Nat} {X:ByteArray} (hX:X=nameX s p) (h:wordB X=false) (h2:¬ 32<X.size):(nameR s p).val=.tuple #[.agg #[.int .u8 1,.string X,.int .i64 0,.int .i64 p],.agg #[.int .i64 0,.int .i64 0]]:=by
 subst hX;unfold nameR;rw [if_neg (by rw [h];decide),if_neg h2];rfl
theorem name_any (b:Nat) (s:ByteArray) (p:Nat) (fa fr:Int) (w:World) (T:LTabs w) (hs62:s.size<=281474976710656) (hp:p<s.size) (hs:Sc w b s p fa fr) :
 Calls Tryz.prog 130 #[.pointer (some ⟨b,0,none⟩)] w fun e w'=>e=.returned (nameR s p).val/\Below w.heap.size w w':=by
 have U:=hs.lt;obtain ⟨⟨c0,c1,c2,Y⟩,f1,Z,f3⟩:=hs.cells;have J:=Hd hs;have M:=Hd T;clear hs T;obtain ⟨V,t⟩:∃ V,Hid (V=(nameR s p).val):=⟨_,rfl⟩;rw [<- t.out];go_enter Tryz.func130,Tryz.ntmps130;go_wp2;go_quiet (fail);obtain ⟨d,c⟩:∃ d,Hid (d=s.extract p s.size):=⟨_,rfl⟩;rw [<- c.out];have E:d.size<=281474976710656:=by rw [c.out];simp;omega
 obtain ⟨n,z⟩:∃ n,Hid (n=spanN namedB (bytesFrom s p)):=⟨_,rfl⟩;have f:d.data.toList=bytesFrom s p:=by rw [c.out];exact tail_list s p
 have i:n<=d.size:=by
  have:=spanN_le namedB (bytesFrom s p);rw [<- z.out,<- f] at this;simpa using this
 have H:Hid (∀ W:World,Calls Tryz.prog 56 #[.string d,.func (.func 57) #[] #[]] W fun e w'=>e=.returned (.int .i64 n)/\W=w'):=fun W=>by
  have k:=span_named d (by omega) W
  rw [f,<- z.out] at k;exact k
 clear f;go_wp2_with (go_at_call 56;refine (H.out _).mono ?_;rintro e w' ⟨rfl,rfl⟩);obtain ⟨X,y⟩:∃ X,Hid (X=d.extract 0 n):=⟨_,rfl⟩;rw [<- y.out];have g:Hid (X=nameX s p):=by rw [Hid,y.out,c.out,z.out];rfl
 have j:X.size<=281474976710656:=by rw [y.out];simp;omega
 obtain ⟨q,r⟩:∃ q,Hid (q=wordB X):=⟨_,rfl⟩;have I:Hid (∀ W:World,LTabs W->Calls Tryz.prog 55 #[.string X] W fun e w'=>e=.returned (.bool q)/\W=w'):=fun W TW=>by
  rw [r.out];exact word_any X W TW
 refine (I.out _ (M.out.drew2 _ _ _)).mono ?_;rintro e w' ⟨rfl,rfl⟩;clear E i H I;cases q
 · by_cases h32 : 32 < X.size
   · have a : Hid (V = .tuple #[.agg #[.int .u8 0, .string ⟨#[]⟩, .int .i64 0, .int .i64 0], .agg #[.int .i64 (p + 32), .int .i64 2]]) := by rw [Hid, t.out]; exact name_long g.out r.out.symm h32
     go_wp2;go_region
     all_goals
      go_wp2;rw [a.out];refine bodyPost_ret (v:=.tuple #[.agg #[.int .u8 0,.string ⟨#[]⟩,.int .i64 0,.int .i64 0],.agg #[.int .i64 (p+32),.int .i64 2]]) (by simp [results,Tryz.results130,go_sem]) rfl ⟨rfl,stored6 (drew2 _) _ _ _ _ _ _⟩
   · have a : Hid (V = .tuple #[.agg #[.int .u8 1, .string X, .int .i64 0, .int .i64 p], .agg #[.int .i64 0, .int .i64 0]]) := by rw [Hid, t.out]; exact name_name g.out r.out.symm h32
     go_wp2_with (go_at_call 165;go_must (refine (token_lit b s X p fa fr 1 0 _ j (J.out.drew2 _ _ _)).mono ?_;rintro e N ⟨rfl,m⟩;obtain ⟨l,o,L,G⟩:=kept2 m w tokZ faultZ rfl rfl rfl rfl;obtain ⟨⟨F,C,A,x⟩,K,O,S,P⟩:=row4 l;obtain ⟨⟨B,D⟩,Q,R⟩:=row2 o;clear l o m));rw [a.out];refine bodyPost_ret (v:=.tuple #[.agg #[.int .u8 1,.string X,.int .i64 0,.int .i64 p],.agg #[.int .i64 0,.int .i64 0]]) (by simp [results,Tryz.results130,go_sem,F,C,A,x,B,D]) rfl ⟨rfl,stored6 G _ _ _ _ _ _⟩
 · have a : Hid (V = .tuple #[.agg #[.int .u8 2, .string X, .int .i64 0, .int .i64 p], .agg #[.int .i64 0, .int .i64 0]]) := by rw [Hid, t.out]; exact name_word g.out r.out.symm
   go_wp2_with (go_at_call 165;go_must (refine (token_lit b s X p fa fr 2 0 _ j (J.out.drew2 _ _ _)).mono ?_;rintro e N ⟨rfl,m⟩;obtain ⟨l,o,L,G⟩:=kept2 m w tokZ faultZ rfl rfl rfl rfl;obtain ⟨⟨F,C,A,x⟩,K,O,S,P⟩:=row4 l;obtain ⟨⟨B,D⟩,Q,R⟩:=row2 o;clear l o m));rw [a.out];refine bodyPost_ret (v:=.tuple #[.agg #[.int .u8 2,.string X,.int .i64 0,.int .i64 p],.agg #[.int .i64 0,.int .i64 0]]) (by simp [results,Tryz.results130,go_sem,F,C,A,x,B,D]) rfl ⟨rfl,stored6 G _ _ _ _ _ _⟩
theorem prefix_len {p l:List UInt8} (h:Lib.hasPrefix l p=true):p.length<=l.length:=by
 have a:p.isPrefixOf l=true:=h;exact (List.isPrefixOf_iff_prefix.1 a).length_le
theorem ahead_le (l:List UInt8):aheadN l<=l.length:=by
 unfold aheadN;split
 · rename_i h
   unfold longB at h;simp only [Bool.or_eq_true] at h;have a:∀ k,k<6->Lib.hasPrefix l (longAt k).data.toList=true->2<=l.length:=by
    intro k c b;have d:=prefix_len b;have f:(longAt k).data.toList.length=2:=by
     have:k=0\/k=1\/k=2\/k=3\/k=4\/k=5:=by omega
     rcases this with rfl | rfl | rfl | rfl | rfl | rfl <;> rfl
    omega
   rcases h with ((((h | h) | h) | h) | h) | h
   · exact a 0 (by omega) h
   · exact a 1 (by omega) h
   · exact a 2 (by omega) h
   · exact a 3 (by omega) h
   · exact a 4 (by omega) h
   · exact a 5 (by omega) h
 · unfold firstN
   split
   · exact Nat.zero_le _
   · split <;> simp
def signX (s:ByteArray) (p:Nat):ByteArray:=(s.extract p s.size).extract 0 (aheadN (bytesFrom s p))
def signR (s:ByteArray) (p:Nat):Res:=⟨4,signX s p,0,p,0,0⟩
theorem sign_at (b:Nat) (s:ByteArray) (p:Nat) (fa fr:Int) (w:World) (T:LTabs w) (hs62:s.size<=281474976710656) (hp:p<s.size) (hs:Sc w b s p fa fr) :
 Calls Tryz.prog 133 #[.pointer (some ⟨b,0,none⟩)] w fun e w'=>e=.returned (signR s p).val/\Below w.heap.size w w':=by
 have E:=hs.lt;obtain ⟨⟨Q,S,P,I⟩,f1,L,U⟩:=hs.cells;have G:=Hd hs;have z:=Hd T;clear hs T;obtain ⟨V,x⟩:∃ V,Hid (V=(signR s p).val):=⟨_,rfl⟩;rw [<- x.out];go_enter Tryz.func133,Tryz.ntmps133;go_wp2;go_quiet (fail);obtain ⟨c,a⟩:∃ c,Hid (c=s.extract p s.size):=⟨_,rfl⟩;rw [<- a.out];have m:c.size<=281474976710656:=by rw [a.out];simp;omega
 obtain ⟨n,l⟩:∃ n,Hid (n=aheadN (bytesFrom s p)):=⟨_,rfl⟩;have d:c.data.toList=bytesFrom s p:=by rw [a.out];exact tail_list s p
 have f:n<=c.size:=by
  have:=ahead_le (bytesFrom s p);rw [<- l.out,<- d] at this;simpa using this
 have o:Hid (∀ W:World,LTabs W->Calls Tryz.prog 168 #[.string c] W fun e w'=>e=.returned (.int .i64 n)/\W=w'):=fun W TW=>by
  have k:=ahead_any c W TW;rw [d,<- l.out] at k;exact k
 clear d;go_wp2_with (go_at_call 168;refine (o.out _ (z.out.drew2 _ _ _)).mono ?_;rintro e w' ⟨rfl,rfl⟩);obtain ⟨X,j⟩:∃ X,Hid (X=c.extract 0 n):=⟨_,rfl⟩;rw [<- j.out];have i:X.size<=281474976710656:=by rw [j.out];simp;omega
 have g:Hid (V=.tuple #[.agg #[.int .u8 4,.string X,.int .i64 0,.int .i64 p],.agg #[.int .i64 0,.int .i64 0]]):=by
  rw [Hid,x.out,show X=signX s p by rw [j.out,a.out,l.out];rfl];rfl
 clear m f o;refine (token_lit b s X p fa fr 4 0 _ i (G.out.drew2 _ _ _)).mono ?_;rintro e M ⟨rfl,r⟩;obtain ⟨q,t,K,H⟩:=kept2 r w tokZ faultZ rfl rfl rfl rfl;obtain ⟨⟨F,C,A,y⟩,J,N,Z,O⟩:=row4 q;obtain ⟨⟨B,D⟩,R,Y⟩:=row2 t;clear q t r;go_wp2;rw [g.out];refine bodyPost_ret (v:=.tuple #[.agg #[.int .u8 4,.string X,.int .i64 0,.int .i64 p],.agg #[.int .i64 0,.int .i64 0]]) (by simp [results,Tryz.results133,go_sem,F,C,A,y,B,D]) rfl ⟨rfl,stored6 H _ _ _ _ _ _⟩
def numX (s:ByteArray) (p:Nat):ByteArray:=(s.extract p s.size).extract 0 (spanN digitB (bytesFrom s p))
def behindB (s:ByteArray) (p:Nat):Bool:=decide (p+spanN digitB (bytesFrom s p)<s.size)&&letterB (PlainAid.bt s (p+spanN digitB (bytesFrom s p)))
def numC (s:ByteArray) (p n:Nat) (X:ByteArray):Option Int->Res
 | none=>⟨0,⟨#[]⟩,0,0,p,3⟩
 | some v=>if behindB s p=true then ⟨0,⟨#[]⟩,0,0,p+(n:Nat),4⟩ else ⟨3,X,v,p,0,0⟩
def numR (s:ByteArray) (p:Nat):Res:=numC s p (spanN digitB (bytesFrom s p)) (numX s p) (valueO (numX s p).data.toList)
theorem bt_extract (s:ByteArray) (p n:Nat) (h:p+n<s.size):PlainAid.bt (s.extract p s.size) n=PlainAid.bt s (p+n):=by
 have c:n<(s.extract p s.size).size:=by simp;omega
 have a:=PlainAid.get_bt (s.extract p s.size) n c;have b:=PlainAid.get_bt s (p+n) h;rw [<- a,<- b];rw [ByteArray.getElem_extract]
theorem number_any (b:Nat) (s:ByteArray) (p:Nat) (fa fr:Int) (w:World) (hs62:s.size<=281474976710656) (hp:p<s.size) (hs:Sc w b s p fa fr) :
 Calls Tryz.prog 131 #[.pointer (some ⟨b,0,none⟩)] w fun e w'=>e=.returned (numR s p).val/\Below w.heap.size w w':=by
 have ah:=hs.lt;obtain ⟨⟨c0,c1,c2,c3⟩,f1,f2,f3⟩:=hs.cells;have T:=Hd hs;clear hs;obtain ⟨V,B⟩:∃ V,Hid (V=(numR s p).val):=⟨_,rfl⟩;rw [<- B.out];go_enter Tryz.func131,Tryz.ntmps131;go_wp2;go_quiet (fail);obtain ⟨d,g⟩:∃ d,Hid (d=s.extract p s.size):=⟨_,rfl⟩;rw [<- g.out];have ai:d.size<=281474976710656:=by rw [g.out];simp;omega
 obtain ⟨n,m⟩:∃ n,Hid (n=spanN digitB (bytesFrom s p)):=⟨_,rfl⟩;have l:d.data.toList=bytesFrom s p:=by rw [g.out];exact tail_list s p
 have O:n<=d.size:=by
  have:=spanN_le digitB (bytesFrom s p);rw [<- m.out,<- l] at this;simpa using this
 have H1:Hid (∀ W:World,Calls Tryz.prog 56 #[.string d,.func (.func 54) #[] #[]] W fun e w'=>e=.returned (.int .i64 n)/\W=w'):=fun W=>by
  have k:=span_digit d (by omega) W
  rw [l,<- m.out] at k;exact k
 clear l;go_wp2_with (go_at_call 56;refine (H1.out _).mono ?_;rintro e w' ⟨rfl,rfl⟩);obtain ⟨X,x⟩:∃ X,Hid (X=d.extract 0 n):=⟨_,rfl⟩;rw [<- x.out];have M:Hid (X=numX s p):=by rw [Hid,x.out,g.out,m.out];rfl
 have t:X.size<=281474976710656:=by rw [x.out];simp;omega
 have i:d.size=s.size-p:=by rw [g.out];simp
 obtain ⟨o,R⟩:∃ o,Hid (o=valueO X.data.toList):=⟨_,rfl⟩;have D:Hid (∀ W:World,Calls Tryz.prog 166 #[.string X] W fun e w'=>e=.returned (ValueV o)/\W=w'):=fun W=>by
  rw [R.out];exact value_any X (by omega) W
 have f:Hid (numR s p=numC s p n X o):=by
  have e:numR s p=numC s p (spanN digitB (bytesFrom s p)) (numX s p) (valueO (numX s p).data.toList):=rfl;rw [Hid,e,<- m.out,<- M.out,<- R.out]
 cases o with
 | none =>
   have a:Hid (V=.tuple #[.agg #[.int .u8 0,.string ⟨#[]⟩,.int .i64 0,.int .i64 0],.agg #[.int .i64 p,.int .i64 3]]):=by rw [Hid,B.out,f.out];rfl
   have r:Hid (∀ W:World,Calls Tryz.prog 166 #[.string X] W fun e w'=>e=.returned (.tuple #[.int .i64 0,.bool false])/\W=w'):=D
   clear D i;refine (r.out _).mono ?_;rintro e w' ⟨rfl,rfl⟩;go_wp2;go_region
   all_goals
    go_wp2;rw [a.out];refine bodyPost_ret (v:=.tuple #[.agg #[.int .u8 0,.string ⟨#[]⟩,.int .i64 0,.int .i64 0],.agg #[.int .i64 p,.int .i64 3]]) (by simp [results,Tryz.results131,go_sem]) rfl ⟨rfl,stored6 (drew2 _) _ _ _ _ _ _⟩
 | some v =>
   have r:Hid (∀ W:World,Calls Tryz.prog 166 #[.string X] W fun e w'=>e=.returned (.tuple #[.int .i64 v,.bool true])/\W=w'):=D
   clear D;by_cases hlast:n<d.size
   · obtain ⟨c, C⟩ : ∃ c, Hid (c = PlainAid.bt d n) := ⟨_, rfl⟩
     have U:∀ h:n<d.size,((d[n]'h).toNat:Int)=c:=fun h=>by rw [C.out];exact PlainAid.get_bt d n h
     have F:0<=c:=by rw [C.out];exact PlainAid.bt_nonneg d n
     have K:c<=255:=by rw [C.out];exact PlainAid.bt_le d n
     obtain ⟨q,Q⟩:∃ q,Hid (q=letterB c):=⟨_,rfl⟩;have P:Hid (∀ W:World,Calls Tryz.prog 118 #[.int .u8 c] W fun e w'=>e=.returned (.bool q)/\W=w'):=fun W=>by
      rw [Q.out];exact letter_any c F K W
     have j:Hid (behindB s p=q):=by
      rw [Hid];unfold behindB;rw [<- m.out,b_t (show p+n<s.size by omega),Q.out,C.out,g.out,bt_extract s p n (by omega)]
      rfl
     clear i;cases q
     · have a : Hid (V = .tuple #[.agg #[.int .u8 3, .string X, .int .i64 v, .int .i64 p], .agg #[.int .i64 0, .int .i64 0]]) := by
        rw [Hid,B.out,f.out];unfold numC;simp only [];rw [if_neg (by rw [j.out];decide)];rfl
       refine (r.out _).mono ?_;rintro e w' ⟨rfl,rfl⟩;go_wp2_with (first | (go_at_call 118;refine (P.out _).mono ?_;rintro e w' ⟨rfl,rfl⟩))
       rw [<- x.out];refine (token_lit b s X p fa fr 3 v _ t (T.out.drew2 _ _ _)).mono ?_;rintro e w1 ⟨rfl,A⟩;obtain ⟨y,z,Z,N⟩:=kept2 A w tokZ faultZ rfl rfl rfl rfl;obtain ⟨⟨L,I,G,E⟩,Y,a5,a6,a7⟩:=row4 y;obtain ⟨⟨H,J⟩,b2,b3⟩:=row2 z;clear y z A;go_wp2;rw [a.out];refine bodyPost_ret (v:=.tuple #[.agg #[.int .u8 3,.string X,.int .i64 v,.int .i64 p],.agg #[.int .i64 0,.int .i64 0]]) (by simp [results,Tryz.results131,go_sem,L,I,G,E,H,J]) rfl ⟨rfl,stored6 N _ _ _ _ _ _⟩
     · have a : Hid (V = .tuple #[.agg #[.int .u8 0, .string ⟨#[]⟩, .int .i64 0, .int .i64 0], .agg #[.int .i64 (p + n), .int .i64 4]]) := by
        rw [Hid,B.out,f.out];unfold numC;simp only [];rw [if_pos j.out];rfl
       have S:IntKind.i64.wrap ((p:Int)+(n:Int))=(p:Int)+(n:Int):=IntWalk.i64_in _ (by omega)
       refine (r.out _).mono ?_;rintro e w' ⟨rfl,rfl⟩;go_wp2_with (first | (go_at_call 118;refine (P.out _).mono ?_;rintro e w' ⟨rfl,rfl⟩))
       go_region
       all_goals
        go_wp2;rw [a.out];refine bodyPost_ret (v:=.tuple #[.agg #[.int .u8 0,.string ⟨#[]⟩,.int .i64 0,.int .i64 0],.agg #[.int .i64 (p+n),.int .i64 4]]) (by simp [results,Tryz.results131,go_sem]) rfl ⟨rfl,stored6 (drew2 _) _ _ _ _ _ _⟩
   · have j : Hid (behindB s p = false) := by
      rw [Hid];unfold behindB;rw [<- m.out,b_f (show ¬ p+n<s.size by omega)]
      rfl
     have a:Hid (V=.tuple #[.agg #[.int .u8 3,.string X,.int .i64 v,.int .i64 p],.agg #[.int .i64 0,.int .i64 0]]):=by
      rw [Hid,B.out,f.out];unfold numC;simp only [];rw [if_neg (by rw [j.out];decide)];rfl
     clear i;refine (r.out _).mono ?_;rintro e w' ⟨rfl,rfl⟩;go_wp2_with fail;rw [<- x.out];refine (token_lit b s X p fa fr 3 v _ t (T.out.drew2 _ _ _)).mono ?_;rintro e w1 ⟨rfl,A⟩;obtain ⟨y,z,Z,N⟩:=kept2 A w tokZ faultZ rfl rfl rfl rfl;obtain ⟨⟨L,I,G,E⟩,Y,a5,a6,a7⟩:=row4 y;obtain ⟨⟨H,J⟩,b2,b3⟩:=row2 z;clear y z A;go_wp2;rw [a.out];refine bodyPost_ret (v:=.tuple #[.agg #[.int .u8 3,.string X,.int .i64 v,.int .i64 p],.agg #[.int .i64 0,.int .i64 0]]) (by simp [results,Tryz.results131,go_sem,L,I,G,E,H,J]) rfl ⟨rfl,stored6 N _ _ _ _ _ _⟩
def famCells (b:Nat):Array Value:=#[.func (.func 118) #[] #[],.func (.func 130) #[.pointer (some ⟨b,0,none⟩)] #[],.func (.func 54) #[] #[],.func (.func 131) #[.pointer (some ⟨b,0,none⟩)] #[],.func (.func 132) #[] #[],.func (.func 133) #[.pointer (some ⟨b,0,none⟩)] #[]]
theorem families_any (b:Nat) (w:World):Calls Tryz.prog 88 #[.pointer (some ⟨b,0,none⟩)] w fun e w'=>e=.returned (.agg (famCells b))/\Below w.heap.size w w':=by
 go_enter Tryz.func88,Tryz.ntmps88;go_wp2;refine bodyPost_ret (v:=.agg (famCells b)) (results_cell_row rfl _ _ w.heap.size 149 (famCells b) (0,0) _ rfl (heap_alloc_new w _) Tryz.underlying149 rfl (by kernel_rfl)) rfl ?_
 exact ⟨rfl,(Below.refl _ _).alloc (Nat.le_refl _) _⟩
def nextR (s:ByteArray) (p:Nat):Res :=
 if letterB (PlainAid.bt s p)=true then nameR s p
 else if digitB (PlainAid.bt s p)=true then numR s p
 else if signB (PlainAid.bt s p)=true then signR s p
 else ⟨0,⟨#[]⟩,0,0,p,1⟩
def pushes (h:Array Obj):List Obj->Array Obj
 | []=>h
 | o::r=>pushes (h.push o) r
theorem pushes_size:∀ (l:List Obj) (h:Array Obj),(pushes h l).size=h.size+l.length
 | [],h=>rfl
 | o::r,h=>by simp only [pushes,pushes_size r,Array.size_push,List.length_cons];omega
theorem pushes_old:∀ (l:List Obj) (h:Array Obj) (k:Nat),k<h.size->(pushes h l)[k]? = h[k]?
 | [],h,k,_=>rfl
 | o :: r, h, k, hk => by
   simp only [pushes]
   rw [pushes_old r (h.push o) k (by simp;omega),Array.getElem?_push,if_neg (by omega)]
theorem pushes_new:∀ (l:List Obj) (h:Array Obj) (i:Nat),i<l.length->(pushes h l)[h.size+i]? = l[i]?
 | [],h,i,hi=>by simp at hi
 | o :: r, h, 0, _ => by
   simp only [pushes]
   rw [pushes_old r (h.push o) _ (by simp)]
   simp
 | o :: r, h, i + 1, hi => by
   simp only [pushes]
   have:=pushes_new r (h.push o) i (by simpa using hi)
   rw [Array.size_push] at this
   rw [show h.size+(i+1)=h.size+1+i by omega,this]
   simp
theorem keptN {W w1:World} (hb:Below W.heap.size W w1) (w:World) (l:List Obj) (hW:W.heap=pushes w.heap l) (hos:W.os=w.os) (htape:W.tape=w.tape) (hout:W.output=w.output) :
 (∀ i,i<l.length->w1.heap[w.heap.size+i]? = l[i]?)/\w.heap.size+l.length<=w1.heap.size/\Below w.heap.size w w1:=by
 have b:W.heap.size=w.heap.size+l.length:=by rw [hW];exact pushes_size _ _
 have a:=hb.size;refine ⟨fun i hi=>?_,by omega,hb.os.trans hos,hb.tape.trans htape,hb.output.trans hout,by omega,fun k hk=>?_⟩
 · rw [hb.block _ (by omega),hW,pushes_new l _ i hi]
 · rw [hb.block k (by omega),hW,pushes_old l _ k hk]
theorem belowN {w W:World} (l:List Obj) (hW:W.heap=pushes w.heap l) (hos:W.os=w.os) (htape:W.tape=w.tape) (hout:W.output=w.output):Below w.heap.size w W :=
 ⟨hos,htape,hout,by rw [hW,pushes_size];omega,fun k hk=>by rw [hW,pushes_old l _ k hk]⟩
theorem quiet_more {P:Program} {f:FuncId} {args:Array Value} {w:World} {a n:Nat} {v:Value} (h:Calls P f args (w.drewN (a+n)) fun e w'=>e=.returned v/\w.drewN (a+n)=w') :
 Calls P f args (w.drewN (a+n)) fun e w''=>e=.returned v/\∃ m,w''=w.drewN (a+m) :=
 h.mono fun _ _ ⟨he,hm⟩=>⟨he,n,hm.symm⟩
theorem quiet_one {P:Program} {f:FuncId} {args:Array Value} {w:World} {n:Nat} {v:Value} (h:Calls P f args (w.drewN n) fun e w'=>e=.returned v/\w.drewN n=w') :
 Calls P f args (w.drewN n) fun e w''=>e=.returned v/\∃ m,w''=w.drewN m :=
 h.mono fun _ _ ⟨he,hm⟩=>⟨he,n,hm.symm⟩
theorem stored6' {w w1:World} {n:Nat} (hn:w.heap.size<=n) (hw:Below w.heap.size w w1) (u0 u1 u2 u3 v0 v1:Value):Below w.heap.size w ((((((w1.setCell ⟨n,0,none⟩ u0).setCell ⟨n,1,none⟩ u1).setCell ⟨n,2,none⟩ u2).setCell ⟨n,3,none⟩ u3).setCell ⟨n+1,0,none⟩ v0).setCell ⟨n+1,1,none⟩ v1) :=
 (((((hw.setCell (p:=⟨n,0,none⟩) hn _).setCell (p:=⟨n,1,none⟩) hn _).setCell (p:=⟨n,2,none⟩) hn _).setCell (p:=⟨n,3,none⟩) hn _).setCell (p:=⟨n+1,0,none⟩) (Nat.le_succ_of_le hn) _).setCell (p:=⟨n+1,1,none⟩) (Nat.le_succ_of_le hn) _
theorem next_0 (b:Nat) (s:ByteArray) (p:Nat) (fa fr:Int) (w:World) (T:LTabs w) (hs62:s.size<=281474976710656) (hp:p<s.size) (hs:Sc w b s p fa fr) (hN0:letterB (PlainAid.bt s p)=true) :
 Calls Tryz.prog 90 #[.pointer (some ⟨b,0,none⟩),.agg #[.func (.func 118) #[] #[],.func (.func 130) #[.pointer (some ⟨b,0,none⟩)] #[],.func (.func 54) #[] #[],.func (.func 131) #[.pointer (some ⟨b,0,none⟩)] #[],.func (.func 132) #[] #[],.func (.func 133) #[.pointer (some ⟨b,0,none⟩)] #[]]] w fun e w'=>e=.returned (Res.val (nameR s p))/\Below w.heap.size w w':=by
 have m:=hs.lt;obtain ⟨⟨c0,c1,Y,M⟩,f1,Q,f3⟩:=hs.cells;have K:=Hd hs;have C:=Hd T;obtain ⟨c,i⟩:∃ c,Hid (c=PlainAid.bt s p):=⟨_,rfl⟩;have A:∀ h:p<s.size,((s[p]'h).toNat:Int)=c:=fun h=>by rw [i.out];exact PlainAid.get_bt s p h
 have j:0<=c:=by rw [i.out];exact PlainAid.bt_nonneg s p
 have n:c<=255:=by rw [i.out];exact PlainAid.bt_le s p
 have z:Hid (∀ W:World,Calls Tryz.prog 118 #[.int .u8 c] W fun e w'=>e=.returned (.bool true)/\W=w'):=fun W=>by
  have k:=letter_any c j n W;rw [i.out,hN0] at k;rw [i.out];exact k
 have S:∀ w,(Instr.index 149 (.agg #[.func (.func 118) #[] #[],.func (.func 130) #[.pointer (some ⟨b,0,none⟩)] #[],.func (.func 54) #[] #[],.func (.func 131) #[.pointer (some ⟨b,0,none⟩)] #[],.func (.func 132) #[] #[],.func (.func 133) #[.pointer (some ⟨b,0,none⟩)] #[]]) (.int .i64 0)).run Tryz.prog w=.ok (.agg #[.func (.func 118) #[] #[],.func (.func 130) #[.pointer (some ⟨b,0,none⟩)] #[]]) w:=fun _=>by kernel_rfl
 have a:∀ W:World,Below w.heap.size w W->Calls Tryz.prog 130 #[.pointer (some ⟨b,0,none⟩)] W fun e d=>e=.returned (Res.val (nameR s p))/\Below W.heap.size W d:=fun W g=>name_any b s p fa fr W (C.out.below (Nat.le_refl _) g) hs62 hp (K.out.below g m)
 obtain ⟨r,E⟩:∃ r,Hid (r=nameR s p):=⟨_,rfl⟩;rw [<- E.out] at a ⊢;obtain ⟨y,x,f,t,o,q⟩:=r;have H:Hid (∀ W:World,Below w.heap.size w W->Calls Tryz.prog 130 #[.pointer (some ⟨b,0,none⟩)] W fun e d=>e=.returned (.tuple #[.agg #[.int .u8 y,.string x,.int .i64 f,.int .i64 t],.agg #[.int .i64 o,.int .i64 q]])/\Below W.heap.size W d):=a
 clear a;clear hs T hN0;have Z:b<w.heap.size+1:=by omega
 have l2:b<w.heap.size+1+1:=by omega
 have P:b<w.heap.size+1+1+1:=by omega
 have R:b<w.heap.size+1+1+1+1:=by omega
 have X:b<w.heap.size+1+1+1+1+1:=by omega
 go_enter Tryz.func90,Tryz.ntmps90;go_wp2_with fail;refine wp_loop_rounds 1 ?_;rw [rounds_succ];go_wp2_with fail;go_quiet ((go_at_call 118;first | (with_reducible exact quiet_one (z.out _)) | (with_reducible exact quiet_more (z.out _))))
 go_wp2_with fail;refine (H.out _ ?hbel).mono ?_
 case hbel=>exact belowN (w:=w) [_,tokZ,faultZ,_] (by rfl) (by rfl) (by rfl) (by rfl)
 rintro e d ⟨rfl,g⟩;obtain ⟨l,O,L⟩:=keptN g w [_,tokZ,faultZ,_] (by rfl) (by rfl) (by rfl) (by rfl)
 obtain ⟨⟨J,G,D,B⟩,N,U,a6,V⟩:=row4 (show d.heap[w.heap.size+1]? = some tokZ from l 1 (by simp))
 obtain ⟨⟨F,I⟩,b2,b3⟩:=row2 (show d.heap[w.heap.size+1+1]? = some faultZ from l 2 (by simp))
 clear l g;go_wp2;refine bodyPost_ret (v:=.tuple #[.agg #[.int .u8 y,.string x,.int .i64 f,.int .i64 t],.agg #[.int .i64 o,.int .i64 q]]) (by simp [results,Tryz.results90,go_sem,J,G,D,B,F,I]) rfl ⟨rfl,stored6' (Nat.le_succ _) L _ _ _ _ _ _⟩
theorem next_1 (b:Nat) (s:ByteArray) (p:Nat) (fa fr:Int) (w:World) (T:LTabs w) (hs62:s.size<=281474976710656) (hp:p<s.size) (hs:Sc w b s p fa fr) (hN0:letterB (PlainAid.bt s p)=false) (hN1:digitB (PlainAid.bt s p)=true) :
 Calls Tryz.prog 90 #[.pointer (some ⟨b,0,none⟩),.agg #[.func (.func 118) #[] #[],.func (.func 130) #[.pointer (some ⟨b,0,none⟩)] #[],.func (.func 54) #[] #[],.func (.func 131) #[.pointer (some ⟨b,0,none⟩)] #[],.func (.func 132) #[] #[],.func (.func 133) #[.pointer (some ⟨b,0,none⟩)] #[]]] w fun e w'=>e=.returned (Res.val (numR s p))/\Below w.heap.size w w':=by
 have n:=hs.lt;obtain ⟨⟨c0,c1,Z,M⟩,f1,Q,f3⟩:=hs.cells;have K:=Hd hs;have S:=Hd T;obtain ⟨c,d⟩:∃ c,Hid (c=PlainAid.bt s p):=⟨_,rfl⟩;have B:∀ h:p<s.size,((s[p]'h).toNat:Int)=c:=fun h=>by rw [d.out];exact PlainAid.get_bt s p h
 have i:0<=c:=by rw [d.out];exact PlainAid.bt_nonneg s p
 have j:c<=255:=by rw [d.out];exact PlainAid.bt_le s p
 have A:Hid (∀ W:World,Calls Tryz.prog 118 #[.int .u8 c] W fun e w'=>e=.returned (.bool false)/\W=w'):=fun W=>by
  have k:=letter_any c i j W;rw [d.out,hN0] at k;rw [d.out];exact k
 have U:∀ w,(Instr.index 149 (.agg #[.func (.func 118) #[] #[],.func (.func 130) #[.pointer (some ⟨b,0,none⟩)] #[],.func (.func 54) #[] #[],.func (.func 131) #[.pointer (some ⟨b,0,none⟩)] #[],.func (.func 132) #[] #[],.func (.func 133) #[.pointer (some ⟨b,0,none⟩)] #[]]) (.int .i64 0)).run Tryz.prog w=.ok (.agg #[.func (.func 118) #[] #[],.func (.func 130) #[.pointer (some ⟨b,0,none⟩)] #[]]) w:=fun _=>by kernel_rfl
 have q:Hid (∀ W:World,Calls Tryz.prog 54 #[.int .u8 c] W fun e w'=>e=.returned (.bool true)/\W=w'):=fun W=>by
  have k:=digit_any c i j W;rw [d.out,hN1] at k;rw [d.out];exact k
 have i1:∀ w,(Instr.index 149 (.agg #[.func (.func 118) #[] #[],.func (.func 130) #[.pointer (some ⟨b,0,none⟩)] #[],.func (.func 54) #[] #[],.func (.func 131) #[.pointer (some ⟨b,0,none⟩)] #[],.func (.func 132) #[] #[],.func (.func 133) #[.pointer (some ⟨b,0,none⟩)] #[]]) (.int .i64 1)).run Tryz.prog w=.ok (.agg #[.func (.func 54) #[] #[],.func (.func 131) #[.pointer (some ⟨b,0,none⟩)] #[]]) w:=fun _=>by kernel_rfl
 have a:∀ W:World,Below w.heap.size w W->Calls Tryz.prog 131 #[.pointer (some ⟨b,0,none⟩)] W fun e f=>e=.returned (Res.val (numR s p))/\Below W.heap.size W f:=fun W l=>number_any b s p fa fr W hs62 hp (K.out.below l n)
 obtain ⟨r,E⟩:∃ r,Hid (r=numR s p):=⟨_,rfl⟩;rw [<- E.out] at a ⊢;obtain ⟨z,y,g,x,o,t⟩:=r;have H:Hid (∀ W:World,Below w.heap.size w W->Calls Tryz.prog 131 #[.pointer (some ⟨b,0,none⟩)] W fun e f=>e=.returned (.tuple #[.agg #[.int .u8 z,.string y,.int .i64 g,.int .i64 x],.agg #[.int .i64 o,.int .i64 t]])/\Below W.heap.size W f):=a
 clear a;clear hs T hN0 hN1;have l1:b<w.heap.size+1:=by omega
 have l2:b<w.heap.size+1+1:=by omega
 have P:b<w.heap.size+1+1+1:=by omega
 have R:b<w.heap.size+1+1+1+1:=by omega
 have Y:b<w.heap.size+1+1+1+1+1:=by omega
 go_enter Tryz.func90,Tryz.ntmps90;go_wp2_with fail;refine wp_loop_rounds 2 ?_;rw [rounds_succ];go_wp2_with fail;go_quiet ((go_at_call 118;first | (with_reducible exact quiet_one (A.out _)) | (with_reducible exact quiet_more (A.out _))))
 go_wp2_with fail;rw [rounds_succ];go_wp2_with fail;go_quiet ((go_at_call 54;first | (with_reducible exact quiet_one (q.out _)) | (with_reducible exact quiet_more (q.out _))))
 go_wp2_with fail;refine (H.out _ ?hbel).mono ?_
 case hbel=>exact belowN (w:=w) [_,tokZ,faultZ,_,_] (by rfl) (by rfl) (by rfl) (by rfl)
 rintro e f ⟨rfl,l⟩;obtain ⟨m,O,L⟩:=keptN l w [_,tokZ,faultZ,_,_] (by rfl) (by rfl) (by rfl) (by rfl)
 obtain ⟨⟨J,G,D,C⟩,N,V,a6,X⟩:=row4 (show f.heap[w.heap.size+1]? = some tokZ from m 1 (by simp))
 obtain ⟨⟨F,I⟩,b2,b3⟩:=row2 (show f.heap[w.heap.size+1+1]? = some faultZ from m 2 (by simp))
 clear m l;go_wp2;refine bodyPost_ret (v:=.tuple #[.agg #[.int .u8 z,.string y,.int .i64 g,.int .i64 x],.agg #[.int .i64 o,.int .i64 t]]) (by simp [results,Tryz.results90,go_sem,J,G,D,C,F,I]) rfl ⟨rfl,stored6' (Nat.le_succ _) L _ _ _ _ _ _⟩
theorem next_2 (b:Nat) (s:ByteArray) (p:Nat) (fa fr:Int) (w:World) (T:LTabs w) (hs62:s.size<=281474976710656) (hp:p<s.size) (hs:Sc w b s p fa fr) (hN0:letterB (PlainAid.bt s p)=false) (hN1:digitB (PlainAid.bt s p)=false) (hN2:signB (PlainAid.bt s p)=true) :
 Calls Tryz.prog 90 #[.pointer (some ⟨b,0,none⟩),.agg #[.func (.func 118) #[] #[],.func (.func 130) #[.pointer (some ⟨b,0,none⟩)] #[],.func (.func 54) #[] #[],.func (.func 131) #[.pointer (some ⟨b,0,none⟩)] #[],.func (.func 132) #[] #[],.func (.func 133) #[.pointer (some ⟨b,0,none⟩)] #[]]] w fun e w'=>e=.returned (Res.val (signR s p))/\Below w.heap.size w w':=by
 have n:=hs.lt;obtain ⟨⟨c0,c1,c2,O⟩,f1,U,f3⟩:=hs.cells;have M:=Hd hs;have E:=Hd T;obtain ⟨c,d⟩:∃ c,Hid (c=PlainAid.bt s p):=⟨_,rfl⟩;have C:∀ h:p<s.size,((s[p]'h).toNat:Int)=c:=fun h=>by rw [d.out];exact PlainAid.get_bt s p h
 have f:0<=c:=by rw [d.out];exact PlainAid.bt_nonneg s p
 have g:c<=255:=by rw [d.out];exact PlainAid.bt_le s p
 have A:Hid (∀ W:World,Calls Tryz.prog 118 #[.int .u8 c] W fun e w'=>e=.returned (.bool false)/\W=w'):=fun W=>by
  have k:=letter_any c f g W;rw [d.out,hN0] at k;rw [d.out];exact k
 have X:∀ w,(Instr.index 149 (.agg #[.func (.func 118) #[] #[],.func (.func 130) #[.pointer (some ⟨b,0,none⟩)] #[],.func (.func 54) #[] #[],.func (.func 131) #[.pointer (some ⟨b,0,none⟩)] #[],.func (.func 132) #[] #[],.func (.func 133) #[.pointer (some ⟨b,0,none⟩)] #[]]) (.int .i64 0)).run Tryz.prog w=.ok (.agg #[.func (.func 118) #[] #[],.func (.func 130) #[.pointer (some ⟨b,0,none⟩)] #[]]) w:=fun _=>by kernel_rfl
 have q:Hid (∀ W:World,Calls Tryz.prog 54 #[.int .u8 c] W fun e w'=>e=.returned (.bool false)/\W=w'):=fun W=>by
  have k:=digit_any c f g W;rw [d.out,hN1] at k;rw [d.out];exact k
 have i1:∀ w,(Instr.index 149 (.agg #[.func (.func 118) #[] #[],.func (.func 130) #[.pointer (some ⟨b,0,none⟩)] #[],.func (.func 54) #[] #[],.func (.func 131) #[.pointer (some ⟨b,0,none⟩)] #[],.func (.func 132) #[] #[],.func (.func 133) #[.pointer (some ⟨b,0,none⟩)] #[]]) (.int .i64 1)).run Tryz.prog w=.ok (.agg #[.func (.func 54) #[] #[],.func (.func 131) #[.pointer (some ⟨b,0,none⟩)] #[]]) w:=fun _=>by kernel_rfl
 have B:Hid (∀ W:World,Calls Tryz.prog 132 #[.int .u8 c] W fun e w'=>e=.returned (.bool true)/\W=w'):=fun W=>by
  have k:=sign_any c f g W;rw [d.out,hN2] at k;rw [d.out];exact k
 have Q:∀ w,(Instr.index 149 (.agg #[.func (.func 118) #[] #[],.func (.func 130) #[.pointer (some ⟨b,0,none⟩)] #[],.func (.func 54) #[] #[],.func (.func 131) #[.pointer (some ⟨b,0,none⟩)] #[],.func (.func 132) #[] #[],.func (.func 133) #[.pointer (some ⟨b,0,none⟩)] #[]]) (.int .i64 2)).run Tryz.prog w=.ok (.agg #[.func (.func 132) #[] #[],.func (.func 133) #[.pointer (some ⟨b,0,none⟩)] #[]]) w:=fun _=>by kernel_rfl
 have a:∀ W:World,Below w.heap.size w W->Calls Tryz.prog 133 #[.pointer (some ⟨b,0,none⟩)] W fun e i=>e=.returned (Res.val (signR s p))/\Below W.heap.size W i:=fun W l=>sign_at b s p fa fr W (E.out.below (Nat.le_refl _) l) hs62 hp (M.out.below l n)
 obtain ⟨r,G⟩:∃ r,Hid (r=signR s p):=⟨_,rfl⟩;rw [<- G.out] at a ⊢;obtain ⟨z,y,j,x,o,t⟩:=r;have J:Hid (∀ W:World,Below w.heap.size w W->Calls Tryz.prog 133 #[.pointer (some ⟨b,0,none⟩)] W fun e i=>e=.returned (.tuple #[.agg #[.int .u8 z,.string y,.int .i64 j,.int .i64 x],.agg #[.int .i64 o,.int .i64 t]])/\Below W.heap.size W i):=a
 clear a;clear hs T hN0 hN1 hN2;have l1:b<w.heap.size+1:=by omega
 have l2:b<w.heap.size+1+1:=by omega
 have S:b<w.heap.size+1+1+1:=by omega
 have V:b<w.heap.size+1+1+1+1:=by omega
 have l5:b<w.heap.size+1+1+1+1+1:=by omega
 go_enter Tryz.func90,Tryz.ntmps90;go_wp2_with fail;refine wp_loop_rounds 3 ?_;rw [rounds_succ];go_wp2_with fail;go_quiet ((go_at_call 118;first | (with_reducible exact quiet_one (A.out _)) | (with_reducible exact quiet_more (A.out _))))
 go_wp2_with fail;rw [rounds_succ];go_wp2_with fail;go_quiet ((go_at_call 54;first | (with_reducible exact quiet_one (q.out _)) | (with_reducible exact quiet_more (q.out _))))
 go_wp2_with fail;rw [rounds_succ];go_wp2_with fail;go_quiet ((go_at_call 132;first | (with_reducible exact quiet_one (B.out _)) | (with_reducible exact quiet_more (B.out _))))
 go_wp2_with fail;refine (J.out _ ?hbel).mono ?_
 case hbel=>exact belowN (w:=w) [_,tokZ,faultZ,_,_,_] (by rfl) (by rfl) (by rfl) (by rfl)
 rintro e i ⟨rfl,l⟩;obtain ⟨m,R,N⟩:=keptN l w [_,tokZ,faultZ,_,_,_] (by rfl) (by rfl) (by rfl) (by rfl)
 obtain ⟨⟨L,I,F,D⟩,P,Y,a6,Z⟩:=row4 (show i.heap[w.heap.size+1]? = some tokZ from m 1 (by simp))
 obtain ⟨⟨H,K⟩,b2,b3⟩:=row2 (show i.heap[w.heap.size+1+1]? = some faultZ from m 2 (by simp))
 clear m l;go_wp2;refine bodyPost_ret (v:=.tuple #[.agg #[.int .u8 z,.string y,.int .i64 j,.int .i64 x],.agg #[.int .i64 o,.int .i64 t]]) (by simp [results,Tryz.results90,go_sem,L,I,F,D,H,K]) rfl ⟨rfl,stored6' (Nat.le_succ _) N _ _ _ _ _ _⟩
theorem next_3 (b:Nat) (s:ByteArray) (p:Nat) (fa fr:Int) (w:World) (T:LTabs w) (hs62:s.size<=281474976710656) (hp:p<s.size) (hs:Sc w b s p fa fr) (hN0:letterB (PlainAid.bt s p)=false) (hN1:digitB (PlainAid.bt s p)=false) (hN2:signB (PlainAid.bt s p)=false) :
 Calls Tryz.prog 90 #[.pointer (some ⟨b,0,none⟩),.agg #[.func (.func 118) #[] #[],.func (.func 130) #[.pointer (some ⟨b,0,none⟩)] #[],.func (.func 54) #[] #[],.func (.func 131) #[.pointer (some ⟨b,0,none⟩)] #[],.func (.func 132) #[] #[],.func (.func 133) #[.pointer (some ⟨b,0,none⟩)] #[]]] w fun e w'=>e=.returned (Res.val (⟨0,⟨#[]⟩,0,0,p,1⟩:Res))/\Below w.heap.size w w':=by
 have m:=hs.lt;obtain ⟨⟨C,E,A,n⟩,I,r,F⟩:=hs.cells;have H:=Hd hs;have x:=Hd T;obtain ⟨c,a⟩:∃ c,Hid (c=PlainAid.bt s p):=⟨_,rfl⟩;have l:∀ h:p<s.size,((s[p]'h).toNat:Int)=c:=fun h=>by rw [a.out];exact PlainAid.get_bt s p h
 have d:0<=c:=by rw [a.out];exact PlainAid.bt_nonneg s p
 have f:c<=255:=by rw [a.out];exact PlainAid.bt_le s p
 have i:Hid (∀ W:World,Calls Tryz.prog 118 #[.int .u8 c] W fun e w'=>e=.returned (.bool false)/\W=w'):=fun W=>by
  have k:=letter_any c d f W;rw [a.out,hN0] at k;rw [a.out];exact k
 have y:∀ w,(Instr.index 149 (.agg #[.func (.func 118) #[] #[],.func (.func 130) #[.pointer (some ⟨b,0,none⟩)] #[],.func (.func 54) #[] #[],.func (.func 131) #[.pointer (some ⟨b,0,none⟩)] #[],.func (.func 132) #[] #[],.func (.func 133) #[.pointer (some ⟨b,0,none⟩)] #[]]) (.int .i64 0)).run Tryz.prog w=.ok (.agg #[.func (.func 118) #[] #[],.func (.func 130) #[.pointer (some ⟨b,0,none⟩)] #[]]) w:=fun _=>by kernel_rfl
 have g:Hid (∀ W:World,Calls Tryz.prog 54 #[.int .u8 c] W fun e w'=>e=.returned (.bool false)/\W=w'):=fun W=>by
  have k:=digit_any c d f W;rw [a.out,hN1] at k;rw [a.out];exact k
 have G:∀ w,(Instr.index 149 (.agg #[.func (.func 118) #[] #[],.func (.func 130) #[.pointer (some ⟨b,0,none⟩)] #[],.func (.func 54) #[] #[],.func (.func 131) #[.pointer (some ⟨b,0,none⟩)] #[],.func (.func 132) #[] #[],.func (.func 133) #[.pointer (some ⟨b,0,none⟩)] #[]]) (.int .i64 1)).run Tryz.prog w=.ok (.agg #[.func (.func 54) #[] #[],.func (.func 131) #[.pointer (some ⟨b,0,none⟩)] #[]]) w:=fun _=>by kernel_rfl
 have j:Hid (∀ W:World,Calls Tryz.prog 132 #[.int .u8 c] W fun e w'=>e=.returned (.bool false)/\W=w'):=fun W=>by
  have k:=sign_any c d f W;rw [a.out,hN2] at k;rw [a.out];exact k
 have o:∀ w,(Instr.index 149 (.agg #[.func (.func 118) #[] #[],.func (.func 130) #[.pointer (some ⟨b,0,none⟩)] #[],.func (.func 54) #[] #[],.func (.func 131) #[.pointer (some ⟨b,0,none⟩)] #[],.func (.func 132) #[] #[],.func (.func 133) #[.pointer (some ⟨b,0,none⟩)] #[]]) (.int .i64 2)).run Tryz.prog w=.ok (.agg #[.func (.func 132) #[] #[],.func (.func 133) #[.pointer (some ⟨b,0,none⟩)] #[]]) w:=fun _=>by kernel_rfl
 clear hs T hN0 hN1 hN2;have B:b<w.heap.size+1:=by omega
 have D:b<w.heap.size+1+1:=by omega
 have q:b<w.heap.size+1+1+1:=by omega
 have t:b<w.heap.size+1+1+1+1:=by omega
 have z:b<w.heap.size+1+1+1+1+1:=by omega
 go_enter Tryz.func90,Tryz.ntmps90;go_wp2_with fail;refine wp_loop_rounds 4 ?_;rw [rounds_succ];go_wp2_with fail;go_quiet ((go_at_call 118;first | (with_reducible exact quiet_one (i.out _)) | (with_reducible exact quiet_more (i.out _))))
 go_wp2_with fail;rw [rounds_succ];go_wp2_with fail;go_quiet ((go_at_call 54;first | (with_reducible exact quiet_one (g.out _)) | (with_reducible exact quiet_more (g.out _))))
 go_wp2_with fail;rw [rounds_succ];go_wp2_with fail;go_quiet ((go_at_call 132;first | (with_reducible exact quiet_one (j.out _)) | (with_reducible exact quiet_more (j.out _))))
 go_wp2_with fail;rw [rounds_succ];go_wp2_with fail;go_region
 all_goals
  go_wp2;refine bodyPost_ret (v:=.tuple #[.agg #[.int .u8 0,.string ⟨#[]⟩,.int .i64 0,.int .i64 0],.agg #[.int .i64 p,.int .i64 1]]) (by simp [results,Tryz.results90,go_sem]) rfl ⟨rfl,stored6' (Nat.le_succ _) (by first | exact belowN [_,_,_,_,_,_] (by rfl) (by rfl) (by rfl) (by rfl)) _ _ _ _ _ _⟩
theorem next_any (b:Nat) (s:ByteArray) (p:Nat) (fa fr:Int) (w:World) (T:LTabs w) (hs62:s.size<=281474976710656) (hp:p<s.size) (hs:Sc w b s p fa fr) :
 Calls Tryz.prog 90 #[.pointer (some ⟨b,0,none⟩),.agg (famCells b)] w fun e w'=>e=.returned (nextR s p).val/\Below w.heap.size w w':=by
 unfold nextR;by_cases h0:letterB (PlainAid.bt s p)=true
 · rw [if_pos h0];exact next_0 b s p fa fr w T hs62 hp hs h0
 · rw [if_neg h0]
   have a:letterB (PlainAid.bt s p)=false:=by simpa using h0
   by_cases h1:digitB (PlainAid.bt s p)=true
   · rw [if_pos h1];exact next_1 b s p fa fr w T hs62 hp hs a h1
   · rw [if_neg h1]
     have c:digitB (PlainAid.bt s p)=false:=by simpa using h1
     by_cases h2:signB (PlainAid.bt s p)=true
     · rw [if_pos h2];exact next_2 b s p fa fr w T hs62 hp hs a c h2
     · rw [if_neg h2]
       have d:signB (PlainAid.bt s p)=false:=by simpa using h2
       exact next_3 b s p fa fr w T hs62 hp hs a c d
end Go.Proofs.YtbgfkdiihnidaaaGreatDoor

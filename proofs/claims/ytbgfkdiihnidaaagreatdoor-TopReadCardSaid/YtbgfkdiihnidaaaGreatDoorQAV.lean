import Derived.Test.YtbgfkdiihnidaaaGreatDoorQAU
import Derived.Deep.MidRow
import Derived.Test.YtbgfkdiihnidaaaGreatDoorQAM
import Derived.Test.YtbgfkdiihnidaaaGreatDoorQAD
import Derived.Test.YtbgfkdiihnidaaaGreatDoorQAE
import Derived.Test.YtbgfkdiihnidaaaGreatDoorQAA
import Derived.Test.YtbgfkdiihnidaaaGreatDoorQAO
import Derived.Deep.RegionWith
import Derived.Deep.CutBlock
import Derived.Deep.QuietTactic
import Derived.BigQuiet
import Derived.Deep.Draws
import Derived.StillTailTactics
import Derived.Deep.LoopGhost
import Derived.Test.YtbgfkdiihnidaaaGreatDoorQAK
import Derived.Test.YtbgfkdiihnidaaaGreatDoorQAF
import Derived.Test.YtbgfkdiihnidaaaGreatDoorQAG
import Derived.Test.YtbgfkdiihnidaaaGreatDoorQAI
import Derived.Test.YtbgfkdiihnidaaaGreatDoorQAJ
import Derived.Deep.RegionHeld3
import Derived.Deep.DeepCutAuto
import Derived.BigRegion
set_option maxRecDepth 100000
set_option maxHeartbeats 20000000
namespace Go.Proofs.YtbgfkdiihnidaaaGreatDoor
open Go.RowKit
set_option linter.unusedVariables false
set_option maxRecDepth 100000
def spS:ByteArray:=⟨#[32]⟩
def cmS:ByteArray:=⟨#[44,32]⟩
def eqS:ByteArray:=⟨#[32,61,32]⟩
def smS:ByteArray:=⟨#[59]⟩
def itoaS (n:Int):ByteArray:=⟨(Lib.itoa n).toArray⟩
def dPart (s:ByteArray) (d:Dc):List ByteArray:=s::d.name::(if d.wd=0 then [] else [eqS,itoaS d.wd])
def dParts (s:ByteArray):List Dc->List ByteArray
 | []=>[]
 | d::r=>dPart s d++dParts cmS r
theorem dParts_snoc (d:Dc):∀ (s:ByteArray) (l:List Dc),dParts s (l++[d])=dParts s l++dPart (if l.length=0 then s else cmS) d
 | s,[]=>by simp [dParts]
 | s, x :: r => by
   simp only [List.cons_append,dParts,dParts_snoc d cmS r,List.append_assoc,List.length_cons,ite_self,Nat.add_one_ne_zero,if_false]
theorem dPart_len (s:ByteArray) (d:Dc):(dPart s d).length<=4:=by unfold dPart;split <;> simp
theorem dParts_len:∀ (s:ByteArray) (l:List Dc),(dParts s l).length<=4*l.length
 | s,[]=>by simp [dParts]
 | s, x :: r => by
   have:=dPart_len s x
   have:=dParts_len cmS r
   simp only [dParts,List.length_append,List.length_cons]
   omega
def tDs (word:ByteArray) (l:List Dc) (d:Nat):List UInt8:=if l.length=0 then [] else marg d++cat (word::(dParts spS l++[smS]))++[10]
theorem itoa_size (n:Int) (h0 : -9223372036854775808<=n) (h1:n<=9223372036854775807):(itoaS n).size<=140737488289792:=by
 show (Lib.itoa n).toArray.size<=_;rw [List.size_toArray];have:=Lib.itoa_length_le n h0 h1;omega
theorem cells_twoS {W:World} {g:Nat} {a b:Value} {t:TypeId} (h:Own W g t #[a,b]) (j:Nat) (u:Value) (hj:[a,b][j]? = some u):W.cell? ((⟨g,0,none⟩:Addr).add j)=some u:=by
 have e:(⟨g,0,none⟩:Addr).add j=⟨g,j,none⟩:=by by_cases h0:j=0 <;> simp [Addr.add,h0]
 rw [e,cell_of_row W g j _ _ _ h,<- hj];have:j<2:=(List.getElem?_eq_some_iff.1 hj).1;match j,this with
 | 0,_=>rfl
 | 1,_=>rfl
theorem cells_oneS {W:World} {g:Nat} {a:Value} {t:TypeId} (h:Own W g t #[a]) (j:Nat) (u:Value) (hj:[a][j]? = some u):W.cell? ((⟨g,0,none⟩:Addr).add j)=some u:=by
 have e:(⟨g,0,none⟩:Addr).add j=⟨g,j,none⟩:=by by_cases h0:j=0 <;> simp [Addr.add,h0]
 rw [e,cell_of_row W g j _ _ _ h,<- hj];have:j<1:=(List.getElem?_eq_some_iff.1 hj).1;match j,this with
 | 0,_=>rfl
theorem infoSg:(Tryz.prog.info? 9).map (fun i=>(i.zero,i.size,i.bytes))=some (some (.string ⟨#[]⟩),1,16):=by kernel_rfl
theorem row_belowS {B:Nat} {e:TypeId} {k:Nat} {v:Value} {n:Nat} {xs:List Value} {w w':World} (h:w.ownsRow B e k v n xs) (hb:Below w.heap.size w w'):w'.ownsRow B e k v n xs:=by
 refine ⟨h.1,?_⟩;rcases h.2 with i | ⟨g,b,c,rfl,f,d,a⟩
 · exact .inl i
 · exact .inr ⟨g,b,c,rfl,f,(hb.block g (Array.getElem?_eq_some_iff.1 d).1).trans d,a⟩
def PtR (B:Nat) (W:World) (v:Value) (l:List ByteArray):Prop:=W.ownsRow B 9 1 v l.length (l.map Value.string)
theorem ptr_one (w:World) (s:ByteArray):PtR w.heap.size (w.alloc (.cells #[.string s] 9)) (.slice (some ⟨w.heap.size,0,none⟩) 1 1) [s] :=
 ⟨by simp,.inr ⟨w.heap.size,1,#[.string s],rfl,Nat.le_refl _,heap_alloc_new w _,Nat.le_refl _,by simp [maxLen],rfl,rfl⟩⟩
theorem ptr_sa {B b:Nat} {W:World} {v:Value} {l:List ByteArray} (h:PtR B W v l) (hb:b<B):(∃ a c,v=.slice a l.length c/\SA b W a l):=by
 obtain ⟨_,⟨rfl,i⟩ | ⟨g,k,d,rfl,o,m,_,_,_,n⟩⟩:=h
 · exact ⟨none,0,by rw [i],.inl (List.eq_nil_of_length_eq_zero i)⟩
 · refine ⟨_, _, rfl, .inr ⟨g, d, rfl, by omega, m, fun j s hj => ?_⟩⟩
   have f:(d.toList.take (l.length*1))[j]? = some (.string s):=by rw [n,List.getElem?_map,hj];rfl
   rw [List.getElem?_take] at f;split at f
   · simpa using f
   · cases f
theorem dParts_small {l:List Dc} (h:∀ d∈l,d.name.size<=140737488289792/\(itoaS d.wd).size<=140737488289792):∀ {s:ByteArray},s.size<=140737488289792->∀ x∈dParts s l,x.size<=140737488289792:=by
 induction l with
 | nil=>intro s b x a;simp [dParts] at a
 | cons d r ih =>
   intro s b x a;obtain ⟨c,f⟩:=h d (.head _);rcases List.mem_append.1 a with a | a
   · unfold dPart at a
     rcases List.mem_cons.1 a with rfl | a
     · exact b
     rcases List.mem_cons.1 a with rfl | a
     · exact c
     split at a
     · simp at a
     · rcases List.mem_cons.1 a with rfl | a
       · decide
       · obtain rfl : x = _ := List.mem_singleton.1 a
         exact f
   · exact ih (fun d hd=>h d (.tail _ hd)) (by decide) x a
theorem p_wlist {l:List Dc} (hlen:l.length<=1073741824) (hnm:∀ d∈l,d.name.size<=140737488289792 /\ -9223372036854775808<=d.wd/\d.wd<=9223372036854775807) {word:ByteArray} (hwz:word.size<=140737488289792) {a:Option Addr} {c:Nat} {w0 w:World} {b:Nat} {txt:List UInt8} {d:Nat} {fs:List Value} (hd:d<=1000) (h1:dcsAt (fun _=>True) w0 l a) (TT:WTb w0) (hb0:b=w0.heap.size) (hbw:Below b w0 w) (hw:Wt b txt d fs w) (ht:txt.length<=65536) :
 Calls Tryz.prog 47 #[.pointer (some ⟨b,0,none⟩),.string word,.slice a l.length c] w (PutP b txt (tDs word l d) d fs w):=by
 have bc:Hid (∀ n W,-9223372036854775808<=n/\n<=9223372036854775807->Below b w0 W->Calls Tryz.prog 13 #[.int .i64 n] W fun e w'=>e=.returned (.string (itoaS n))/\Below W.heap.size W w'):=fun n W hn hb=>print_any n hn.1 hn.2 W (TT.below (hb0 ▸ hb))
 have bh:Hid (∀ W,Below w.heap.size w W->∀ v,PtR w.heap.size W v (word::(dParts spS l++[smS]))->Calls Tryz.prog 48 #[.pointer (some ⟨b,0,none⟩),v] W (PutP b txt (marg d++cat (word::(dParts spS l++[smS]))++[10]) d fs W)):=fun W hB v hp=>by
  obtain ⟨a',c',rfl,M⟩:=ptr_sa hp hw.lt;have b2:=dParts_len spS l;refine p_line (hw.below hB) hd ht (by simp;omega) (fun s M=>?_) M
  rcases List.mem_cons.1 M with rfl | M
  · exact hwz
  rcases List.mem_append.1 M with M | M
  · exact dParts_small (fun d hd=>⟨(hnm d hd).1,itoa_size _ (hnm d hd).2.1 (hnm d hd).2.2⟩) (by decide) s M
  · obtain rfl : s = smS := by simpa using M
    decide
 have be:=Hd hnm;have E1:=Hd h1;have aq:=Hd hbw;have Q:=Hd (Nat.le_of_lt hw.lt);have HW:=Hd hw;have bo:=Hd hb0;obtain ⟨n,hn⟩:=Qx l.length;rw [<- hn] at hlen ⊢;have HN:=Hd hn;have HT:=Hd ht;obtain ⟨tx,X⟩:=Qx (tDs word l d);rw [<- X];have E:=Hd X;clear h1 TT hb0 hbw hw ht hn hd hnm hwz X;by_cases hn0:n=0
 · subst hn0
   have hF:PutP b txt tx d fs w (.returned (.tuple #[])) w:=by
    rw [E.out,tDs,if_pos HN.out.symm];exact ⟨Below.refl _ w,.inl ⟨by simpa using HT.out,rfl,by rw [List.append_nil];exact HW.out,Keep.refl _ w⟩⟩
   have HF:=Hd hF;clear hF;go_enter Tryz.func47,Tryz.ntmps47;go_wp2_with fail;exact bodyPost_ret (results_none rfl _ _ _) rfl HF.out
 replace E:Hid (tx=marg d++cat (word::(dParts spS l++[smS]))++[10]):=by rw [Hid,E.out,tDs,if_neg (by have:=HN.out;omega)]
 obtain ⟨i0,hi,L,O,N⟩:=info_parts infoSg;have cc:¬ ((n:Int)=0):=by omega
 have b9:((n:Int)==0)=false:=by simpa using hn0
 have au:=Hd (ptr_one w word);have a3:=Hd ((Below.refl w.heap.size w).alloc (Nat.le_refl _) (.cells #[.string word] 9));go_enter Tryz.func47,Tryz.ntmps47;go_wp2_with fail;go_loopg [6,7,17] (n+1) (fun m' v s u W=>∃ i:Nat,u=.int .i64 (i:Int)/\i<=n/\m'=n-i+1/\s=.string (if i=0 then spS else cmS)/\PtR w.heap.size W v (word::dParts spS (l.take i))/\Below w.heap.size w W)
 case atStart=>exact ⟨0,rfl,Nat.zero_le _,by omega,rfl,au.out,a3.out⟩
 case round =>
  obtain ⟨i,rfl,b3,hm,rfl,hp,ay⟩:=hrel;have HM:=Hd hm;have HR:=Hd hp;have HB:=Hd ay;clear hm hp ay au a3;by_cases hin:i<n
  · have il : i < l.length := by have := HN.out; omega
    have g1:l[i]? = some l[i]:=List.getElem?_eq_getElem il;have G:l[i]∈l:=List.getElem_mem il;have V:l.take (i+1)=l.take i++[l[i]]:=by rw [List.take_succ_eq_append_getElem il]
    have ah:(l.take i).length=i:=by rw [List.length_take];omega
    generalize l[i]=x at g1 G V;have ac:word::dParts spS (l.take (i+1))=(word::dParts spS (l.take i))++dPart (if i=0 then spS else cmS) x:=by rw [V,dParts_snoc,ah,List.cons_append]
    have I:=dParts_len spS (l.take i);rw [ah] at I;rcases E1.out with e | ⟨g,q,e,_,e1⟩
    · cases l with
      | nil=>simp at il
      | cons=>cases e
    obtain rfl:a=some ⟨g,q,none⟩:=e;have x1:=dcsIn_get i x e1 g1;obtain ⟨C,wd,ps⟩:=x;obtain ⟨f0,f1,f2⟩:=x1;have lg:=lt_of_at f0;simp only at lg;rw [<- bo.out] at lg;have bz:(i:Int)<(n:Int):=by omega
    have BX:=aq.out.trans (HB.out.mono Q.out);have f0:=cb BX lg f0;have f1:=cb BX lg f1;have f2:=cb BX lg f2;obtain ⟨_,R,S⟩:=be.out _ G;have bi:=Hd (And.intro R S);obtain ⟨T,af⟩:=Qx ((if i=0 then spS else cmS));obtain ⟨pl,o⟩:=Qx (word::dParts spS (l.take i));rw [<- af,<- o] at ac;rw [<- o] at HR;rw [<- af];have J:Hid (pl.length<=4*i+1):=by rw [Hid,o,List.length_cons];omega
    have P:=Hd ac;clear g1 e1 il BX G V ah I o ac R S lg af;have O1:=Own.new wr 61 #[.string C,.int .i64 wd,.int .i64 ps];have ad:=Hd ((Below.refl wr.heap.size wr).alloc (Nat.le_refl _) (.cells #[.string C,.int .i64 wd,.int .i64 ps] 61));have D:=World.ownsRow.alloc HR.out (.cells #[.string C,.int .i64 wd,.int .i64 ps] 61);have t:=Hd (World.ownsRow.lt HR.out);obtain ⟨W1,ae⟩:=Qx (wr.alloc (.cells #[.string C,.int .i64 wd,.int .i64 ps] 61));rw [<- ae] at O1 ad D;have ar:=Hd D;have ao:=Hd O1;have bl:=Hd ae;have Y:=Hd (HB.out.trans (ad.out.mono HB.out.size));clear ae O1 D ad;go_upto_region 6 with (fail)
    rw [<- bl.out];have y0:W1.cell? ⟨wr.heap.size,0,none⟩=some (.string C):=cr ao.out;have z:=World.ownsRow.alloc ar.out (.cells #[.string T,.string C] 9);have N2:=Own.new W1 9 #[.string T,.string C];have O2:=Hd (ao.out.alloc (.cells #[.string T,.string C] 9));have y:=Hd (Y.out.alloc Y.out.size (.cells #[.string T,.string C] 9));have bn:w.heap.size<=W1.heap.size:=Y.out.size;have ax:pl.length<=4*i+1:=J.out;by_cases hz:wd=0
    · subst hz
      have K:Hid (word::dParts spS (l.take (i+1))=pl++[T,C]):=by rw [Hid,P.out];simp [dPart]
      go_wp2_with (at_builtin;refine wpList_append_own _ rfl _ _ 71 rfl w.heap.size 9 i0 _ 1 16 Tryz.underlying71 hi L O N rfl (by decide) _ _ _ rfl z ⟨W1.heap.size,0,none⟩ 2 2 [.string T,.string C] rfl rfl (fun j u hj=>cells_twoS N2 j u hj) (by simp [Value.oneCell']) (by simp only [maxLen];omega) (by omega) (by simp;omega) ?_;intro v4 w4 m f _;have p:=Hd m;have r:=Hd (y.out.grown f y.out.size (fun k A=>(t.out k A).1));have O4:=own_grown O2.out f (fun A=>by have:=(t.out _ A).2;omega);have z1:w4.cell? ⟨wr.heap.size,1,none⟩=some (.int .i64 _):=(cr O4);clear m f O4)
      go_roundg (n-(i+1)+1)
      case measure=>have:=HM.out;omega
      case rel =>
       refine ⟨i+1,by simp,by omega,by omega,by simp [cmS],?_,r.out⟩
       have:=p.out;rw [K.out];unfold PtR;rw [List.length_append,List.map_append];exact this
    · have K : Hid (word :: dParts spS (l.take (i + 1)) = (pl ++ [T, C]) ++ [eqS, itoaS wd]) := by rw [Hid, P.out]; simp [dPart, hz]
      have hq:(wd==0)=false:=by simpa using hz
      go_wp2_with (at_builtin;refine wpList_append_own _ rfl _ _ 71 rfl w.heap.size 9 i0 _ 1 16 Tryz.underlying71 hi L O N rfl (by decide) _ _ _ rfl z ⟨W1.heap.size,0,none⟩ 2 2 [.string T,.string C] rfl rfl (fun j u hj=>cells_twoS N2 j u hj) (by simp [Value.oneCell']) (by simp only [maxLen];omega) (by omega) (by simp;omega) ?_;intro v4 w4 m f _;have p:=Hd m;have r:=Hd (y.out.grown f y.out.size (fun k A=>(t.out k A).1));have O4:=own_grown O2.out f (fun A=>by have:=(t.out _ A).2;omega);have z1:w4.cell? ⟨wr.heap.size,1,none⟩=some (.int .i64 _):=(cr O4);clear m f O4)
      go_at_call 13;refine (bc.out _ _ bi.out (aq.out.trans (r.out.mono Q.out))).mono ?_;rintro e w5 ⟨rfl,ag⟩;have H:=Hd (row_belowS p.out ag);have Z:=Hd (r.out.trans (ag.mono r.out.size));have a4:=World.ownsRow.alloc H.out (.cells #[.string ⟨#[32,61,32]⟩,.string (itoaS wd)] 9);have N6:=Own.new w5 9 #[.string ⟨#[32,61,32]⟩,.string (itoaS wd)];have a2:=Hd (Z.out.alloc Z.out.size (.cells #[.string ⟨#[32,61,32]⟩,.string (itoaS wd)] 9));have b7:w.heap.size<=w5.heap.size:=Z.out.size;have aa:=Hd (World.ownsRow.lt H.out);clear ag;go_wp2_with (at_builtin;refine wpList_append_own _ rfl _ _ 71 rfl w.heap.size 9 i0 _ 1 16 Tryz.underlying71 hi L O N rfl (by decide) _ _ _ rfl a4 ⟨w5.heap.size,0,none⟩ 2 2 [.string ⟨#[32,61,32]⟩,.string (itoaS wd)] rfl rfl (fun j u hj=>cells_twoS N6 j u hj) (by simp [Value.oneCell']) (by simp only [maxLen];omega) (by omega) (by simp;omega) ?_;intro v7 w7 F B _;have U:=Hd F;have bd:=Hd (a2.out.grown B a2.out.size (fun k A=>(aa.out k A).1));clear F B)
      go_roundg (n-(i+1)+1)
      case measure=>have:=HM.out;omega
      case rel =>
       refine ⟨i+1,by simp,by omega,by omega,by simp [cmS],?_,bd.out⟩
       have:=U.out;rw [K.out];unfold PtR;rw [List.length_append,List.length_append,List.map_append,List.map_append];exact this
  · have aw : i = n := by omega
    subst aw;have J:Hid (word::dParts spS (l.take i)=word::dParts spS l):=by rw [Hid,HN.out,List.take_length]
    have I:=dParts_len spS l;rw [<- HN.out] at I;obtain ⟨pl,o⟩:=Qx (word::dParts spS (l.take i));rw [<- o] at HR J;have P:Hid (word::(dParts spS l++[smS])=pl++[smS]):=by rw [Hid,J.out,List.cons_append]
    have ax:pl.length<=4*i+1:=by rw [J.out,List.length_cons];omega
    have z:=World.ownsRow.alloc HR.out (.cells #[.string ⟨#[59]⟩] 9);have N2:=Own.new wr 9 #[.string ⟨#[59]⟩];have y:=Hd (HB.out.alloc HB.out.size (.cells #[.string ⟨#[59]⟩] 9));have bn:w.heap.size<=wr.heap.size:=HB.out.size;have t:=Hd (World.ownsRow.lt HR.out);clear I o;go_wp2_with (at_builtin;refine wpList_append_own _ rfl _ _ 71 rfl w.heap.size 9 i0 _ 1 16 Tryz.underlying71 hi L O N rfl (by decide) _ _ _ rfl z ⟨wr.heap.size,0,none⟩ 1 1 [.string ⟨#[59]⟩] rfl rfl (fun j u hj=>cells_oneS N2 j u hj) (by simp [Value.oneCell']) (by simp only [maxLen];omega) (by omega) (by simp;omega) ?_;intro v4 w4 m f _;have p:=Hd m;have r:=Hd (y.out.grown f y.out.size (fun k A=>(t.out k A).1));clear m f)
    go_at_call 48;have bg:PtR w.heap.size w4 v4 (word::(dParts spS l++[smS])):=by
     have:=p.out;rw [P.out];unfold PtR;rw [List.length_append,List.map_append];exact this
    refine (bh.out _ r.out _ bg).mono ?_;rintro e w8 hh;rcases hh.cases with ⟨hx,rfl,av,A,hb⟩ | ⟨hx,rfl,hb⟩
    rotate_left
    · go_wp2_with fail
      exact ⟨rfl,(r.out.mono Q.out).trans hb,.inr ⟨by rw [E.out];exact hx,rfl⟩⟩
    have HF:Hid (PutP b txt tx d fs w (.returned (.tuple #[])) w8):=by
     rw [Hid,E.out];exact ⟨(r.out.mono Q.out).trans hb,.inl ⟨hx,rfl,av,(keep_below r.out).trans A⟩⟩
    clear hx av A hb;go_wp2_with fail;exact bodyPost_end (results_none rfl _ _ _) rfl HF.out
set_option maxRecDepth 100000
theorem p_newWriter (w:World):Calls Tryz.prog 46 #[] w fun e w'=>e=.returned (.pointer (some ⟨w.heap.size,0,none⟩))/\Wt w.heap.size [] 0 (mFs w.heap.size) w'/\Below w.heap.size w w':=by
 go_enter Tryz.func46,Tryz.ntmps46;go_wp2_with fail;go_ret;exact ⟨rfl,⟨_,_,Own.new w _ _,rfl,.inl rfl,fun _=>rfl,World.ownsRow_nil _ _ _ _⟩,(Below.refl _ w).alloc (Nat.le_refl _) _⟩
set_option maxRecDepth 100000
def tT (t:Th):List UInt8:=ln 0 [[116,104,114,101,97,100,32],t.name.data.toList,[32,123]]++(tDs ⟨#[108,111,99,97,108]⟩ t.locals 1++(tSs t.body 1++ln 0 [[125]]))
def tP (p:Pg):List UInt8:=tDs ⟨#[115,104,97,114,101,100]⟩ p.shared 0++(tDs ⟨#[108,111,99,107]⟩ p.locks 0++p.threads.flatMap tT)
theorem flat_snoc {α β:Type} (f:α->List β) (l:List α) (x:α):(l++[x]).flatMap f=l.flatMap f++f x:=by simp
theorem bare_mem {l:List Dc} (h:bareB l=true):∀ d∈l,d.name.size<=140737488289792 /\ -9223372036854775808<=d.wd/\d.wd<=9223372036854775807:=fun d hd=>by
 have:=List.all_eq_true.1 h d hd
 simp only [Bool.and_eq_true,beq_iff_eq] at this
 have h1:=name_size this.1
 rw [this.2]
 exact ⟨by omega,by omega,by omega⟩
theorem shared_mem {l:List Dc} (h:sharedB l=true) (hr:∀ d∈l,-9223372036854775808<=d.wd/\d.wd<=9223372036854775807):∀ d∈l,d.name.size<=140737488289792 /\ -9223372036854775808<=d.wd/\d.wd<=9223372036854775807:=fun d hd=>by
 have:=List.all_eq_true.1 h d hd
 simp only [Bool.and_eq_true] at this
 have h1:=name_size this.1
 exact ⟨by omega,hr d hd⟩
def lenP (x:Pg):Prop:=x.shared.length<=1073741824/\x.locks.length<=1073741824/\∀ t∈x.threads,t.locals.length<=1073741824
def rgD (l:List Dc):Prop:=∀ d∈l,-9223372036854775808<=d.wd/\d.wd<=9223372036854775807
theorem not_u8T {cs:Array Value} : ¬ IsTy 5 (.cells cs 66):=by
 rintro ⟨c,f,h⟩;cases h
theorem p_program' (x:Pg) (hok:okP x) (hrg:rgP x) (hr:rP x=true) (hD:rgD x.shared) (hL:lenP x) {v:Value} {w:World} (hv:pA w x v) (TT:WTb w):Calls Tryz.prog 19 #[v] w (TxP w (tP x)):=by
 obtain ⟨a1,c1,a2,N,a3,c3,rfl,h1,h2,h3⟩:=hv;obtain ⟨_,_,l3,bh⟩:=hok;obtain ⟨l1,l2,ll⟩:=hL;obtain ⟨M,L,a⟩:=x;simp only at *;unfold rP at hr;simp only [Bool.and_eq_true] at hr;obtain ⟨r1,r2,r3⟩:=hr;have BA:Below w.heap.size w (w.alloc (.cells #[.slice a1 M.length c1,.slice a2 L.length N,.slice a3 a.length c3] 26)):=(Below.refl _ w).alloc (Nat.le_refl _) _;have OX:=Own.new w 26 #[.slice a1 M.length c1,.slice a2 L.length N,.slice a3 a.length c3];obtain ⟨I,ao⟩:=Qx (w.alloc (.cells #[.slice a1 M.length c1,.slice a2 L.length N,.slice a3 a.length c3] 26));rw [<- ao] at BA OX;have P:=TT.below BA;have h1:=dcsAt_below h1 BA;have h2:=dcsAt_below h2 BA;have h3:=thsAt_below h3 BA;obtain ⟨b,hb⟩:=Qx I.heap.size;have bj:Hid (Calls Tryz.prog 46 #[] I fun e w'=>e=.returned (.pointer (some ⟨b,0,none⟩))/\Wt b [] 0 (mFs b) w'/\Below b I w'):=by rw [Hid,hb];exact p_newWriter I
 have Z:Hid (∀ W,Below b I W->Wt b [] 0 (mFs b) W->Calls Tryz.prog 47 #[.pointer (some ⟨b,0,none⟩),.string ⟨#[115,104,97,114,101,100]⟩,.slice a1 M.length c1] W (PutP b [] (tDs ⟨#[115,104,97,114,101,100]⟩ M 0) 0 (mFs b) W)):=fun W h hw=>p_wlist l1 (shared_mem r1 hD) (by decide) (by omega) h1 P hb h hw (by simp)
 have ab:Hid (∀ t W,Below b I W->Wt b t 0 (mFs b) W->t.length<=65536->Calls Tryz.prog 47 #[.pointer (some ⟨b,0,none⟩),.string ⟨#[108,111,99,107]⟩,.slice a2 L.length N] W (PutP b t (tDs ⟨#[108,111,99,107]⟩ L 0) 0 (mFs b) W)):=fun t W h hw O=>p_wlist l2 (bare_mem r2) (by decide) (by omega) h2 P hb h hw O
 have dd:=Hd (List.all_eq_true.1 r3);have cu:=Hd ll;have cq:=Hd bh;have c8:=Hd hrg;have cc:=Hd P;have HB:=Hd hb;have E3:=Hd h3;have r:=Hd BA;have dc:=Hd OX;have E:=Hd ao;have l:Hid (w.heap.size<b):=by rw [Hid,hb];exact OX.lt
 have B:Hid (∀ W,Below b I W->Own W w.heap.size 26 #[.slice a1 M.length c1,.slice a2 L.length N,.slice a3 a.length c3]):=fun W h=>(h.block _ l.out).trans OX
 obtain ⟨tx,A⟩:=Qx (tP ⟨M,L,a⟩);rw [<- A];have o:Hid (tx=tDs ⟨#[115,104,97,114,101,100]⟩ M 0++(tDs ⟨#[108,111,99,107]⟩ L 0++a.flatMap tT)):=A;generalize tDs ⟨#[115,104,97,114,101,100]⟩ M 0=t1 at Z o;generalize tDs ⟨#[108,111,99,107]⟩ L 0=t2 at ab o;obtain ⟨U,H⟩:=Qx a.length;rw [<- H] at B l3;rw [show (Value.slice a3 a.length c3)=.slice a3 U c3 by rw [H]]
 rw [<- H] at E;have cd:=Hd H;generalize M.length=n1 at Z B E;generalize L.length=n2 at ab B E;clear A H h1 h2 h3 TT P bh hrg hD l1 l2 ll r1 r2 r3 BA OX ao hb dc;go_enter Tryz.func19,Tryz.ntmps19;go_upto_region 1 with (fail)
 rw [<- E.out];clear E;go_wp2_with fail;go_at_call 46;refine bj.out.mono ?_;rintro e w1 ⟨rfl,bw,am⟩;have J:=Hd bw;have k:=Hd am;have d0:w1.cell? ⟨w.heap.size,0,none⟩=some (.slice a1 n1 c1):=by rw [cell_of_row _ _ 0 _ _ _ (B.out _ am)];rfl
 clear bw am;go_wp2_with fail;go_at_call 47;refine (Z.out _ k.out J.out).mono ?_;rintro e w2 j;rcases j.cases with ⟨c,rfl,m,C,f⟩ | ⟨c,rfl,f⟩
 rotate_left
 · go_wp2_with fail
   exact ⟨rfl,r.out.trans ((k.out.trans f).mono (Nat.le_of_lt l.out)),.inr ⟨by rw [o.out];simp at c ⊢;omega,rfl⟩⟩
 rw [List.nil_append] at c m;have bs:=Hd m;have bu:=Hd c;have K:=Hd (k.out.trans f);have d1:w2.cell? ⟨w.heap.size,1,none⟩=some (.slice a2 n2 N):=by rw [cell_of_row _ _ 1 _ _ _ (B.out _ K.out)];rfl
 clear j c m C f d0;go_wp2_with fail;go_at_call 47;refine (ab.out _ _ K.out bs.out bu.out).mono ?_;rintro e w3 j;rcases j.cases with ⟨c,rfl,bn,C,aa⟩ | ⟨c,rfl,aa⟩
 rotate_left
 · go_wp2_with fail
   exact ⟨rfl,r.out.trans ((K.out.trans aa).mono (Nat.le_of_lt l.out)),.inr ⟨by rw [o.out];simp at c ⊢;omega,rfl⟩⟩
 have F:=Hd bn;have G:=Hd c;have i:=Hd (K.out.trans aa);have d2:w3.cell? ⟨w.heap.size,2,none⟩=some (.slice a3 U c3):=by rw [cell_of_row _ _ 2 _ _ _ (B.out _ i.out)];rfl
 clear j c bn C aa d1;go_wp2_with fail;clear d2;go_loopg [18] (U+1) (fun m' u W=>∃ t:Nat,u=.int .i64 (t:Int)/\t<=U/\m'=U-t+1/\((t1++t2)++(a.take t).flatMap tT).length<=65536/\Wt b ((t1++t2)++(a.take t).flatMap tT) 0 (mFs b) W/\Below b I W)
 case atStart=>exact ⟨0,rfl,Nat.zero_le _,by omega,by simpa using G.out,by simpa using F.out,i.out⟩
 case round =>
  obtain ⟨t,rfl,O,hm,b8,bp,bv⟩:=hrel;have HM:=Hd hm;have HK:=Hd b8;have HX:=Hd bp;have ax:=Hd bv;clear hm b8 bp bv bu bs K G F i J k Z ab bj;by_cases htn:t<U
  · have il : t < a.length := by have := cd.out; omega
    have g1:a[t]? = some a[t]:=List.getElem?_eq_getElem il;have d:a[t]∈a:=List.getElem_mem il;have ag:a.take (t+1)=a.take t++[a[t]]:=by rw [List.take_succ_eq_append_getElem il]
    have af:a=a.take t++(a[t]::a.drop (t+1)):=by rw [<- List.drop_eq_getElem_cons il,List.take_append_drop]
    generalize a[t]=x at g1 d ag af;have p:(a.take (t+1)).flatMap tT=(a.take t).flatMap tT++tT x:=by rw [ag,flat_snoc]
    have y:a.flatMap tT=(a.take t).flatMap tT++(tT x++(a.drop (t+1)).flatMap tT):=by
     refine (congrArg (fun z=>z.flatMap tT) af).trans ?_
     simp
    rcases E3.out with e | ⟨g,q,e,_,e1⟩
    · cases a with
      | nil=>simp at il
      | cons=>cases e
    obtain rfl:a3=some ⟨g,q,none⟩:=e;have x1:=thsIn_get t x e1 g1;obtain ⟨D,lo,bo,ps⟩:=x;obtain ⟨f0,⟨a4,c4,f1,w1⟩,⟨a5,c5,f2,w2⟩,f3⟩:=x1;have lg:=lt_of_at f0;simp only at lg;rw [<- HB.out] at lg;have dj:(t:Int)<(U:Int):=by omega
    have r3:=dd.out _ d;simp only [thB,Bool.and_eq_true] at r3;obtain ⟨q1,q2,q3⟩:=r3;obtain ⟨_,o2,o3⟩:=cq.out _ d;have ol:=cu.out _ d;have bc:rgSs bo:=c8.out _ d;simp only at o2 o3 ol;have bl:D.size<=140737488289792:=by have:=name_size q1;omega
    have H0:Hid (∀ tx W,Wt b tx 0 (mFs b) W->tx.length<=65536->Calls Tryz.prog 48 #[.pointer (some ⟨b,0,none⟩),.slice (some ⟨W.heap.size,0,none⟩) 3 3] (W.alloc (.cells #[.string ⟨#[116,104,114,101,97,100,32]⟩,.string D,.string ⟨#[32,123]⟩] 9)) (PutP b tx (ln 0 [[116,104,114,101,97,100,32],D.data.toList,[32,123]]) 0 (mFs b) W)):=fun tx W hw O=>p_line3 (deep:=0) hw (by omega) O ⟨#[116,104,114,101,97,100,32]⟩ D ⟨#[32,123]⟩ (fun s hs=>by
     simp only [List.mem_cons,List.not_mem_nil,or_false] at hs
     rcases hs with rfl | rfl | rfl
     · decide
     · exact bl
     · decide)
    have H1:Hid (∀ tx W,Below b I W->Wt b tx 1 (mFs b) W->tx.length<=65536->Calls Tryz.prog 47 #[.pointer (some ⟨b,0,none⟩),.string ⟨#[108,111,99,97,108]⟩,.slice a4 lo.length c4] W (PutP b tx (tDs ⟨#[108,111,99,97,108]⟩ lo 1) 1 (mFs b) W)):=fun tx W h hw O=>p_wlist ol (bare_mem q2) (by decide) (by omega) w1 cc.out HB.out h hw O
    have H2:Hid (∀ tx W,Below b I W->Wt b tx 0 (mFs b) W->tx.length<=65536->Calls Tryz.prog 49 #[.pointer (some ⟨b,0,none⟩),.slice a5 bo.length c5] W (PutP b tx (tSs bo 1) 0 (mFs b) W)):=fun tx W h hw O=>w_block bo 0 q3 o3 o2 bc a5 c5 I W b tx w2 cc.out HB.out h hw O
    have H3:Hid (∀ tx W,Wt b tx 0 (mFs b) W->tx.length<=65536->Calls Tryz.prog 48 #[.pointer (some ⟨b,0,none⟩),.slice (some ⟨W.heap.size,0,none⟩) 1 1] (W.alloc (.cells #[.string ⟨#[125]⟩] 9)) (PutP b tx (ln 0 [[125]]) 0 (mFs b) W)):=fun tx W hw O=>p_line1 (deep:=0) hw (by omega) O ⟨#[125]⟩ (fun s hs=>by
     simp only [List.mem_cons,List.not_mem_nil,or_false] at hs
     subst hs
     decide)
    have BX:=ax.out;have f0:=cb BX lg f0;have f1:=cb BX lg f1;have f2:=cb BX lg f2;have f3:=cb BX lg f3;have bz:tT ⟨D,lo,bo,ps⟩=ln 0 [[116,104,114,101,97,100,32],D.data.toList,[32,123]]++(tDs ⟨#[108,111,99,97,108]⟩ lo 1++(tSs bo 1++ln 0 [[125]])):=rfl;rw [bz] at p y;obtain ⟨tp,V⟩:=Qx ((t1++t2)++(a.take t).flatMap tT);rw [<- V] at HK HX;generalize ln 0 [[116,104,114,101,97,100,32],D.data.toList,[32,123]]=s0 at H0 p y;generalize tDs ⟨#[108,111,99,97,108]⟩ lo 1=s1 at H1 p y;generalize tSs bo 1=s2 at H2 p y;generalize ln 0 [[125]]=s3 at H3 p y;have bm:Hid ((t1++t2)++(a.take (t+1)).flatMap tT=tp++(s0++(s1++(s2++s3)))):=by rw [Hid,p,V];simp only [List.append_assoc]
    have ac:Hid (∃ n,tx=tp++(s0++(s1++(s2++(s3++n))))):=⟨(a.drop (t+1)).flatMap tT,by rw [o.out,y,V];simp only [List.append_assoc]⟩
    generalize lo.length=nl at H1 f1;generalize bo.length=nb at H2 f2;clear g1 e1 il BX d w1 w2 ag af p y lg q1 q2 q3 o2 o3 ol bc bl bz V;have OT:=Hd (Own.new wr 66 #[.string D,.slice a4 nl c4,.slice a5 nb c5,.int .i64 ps]);have BT:=Hd ((Below.refl wr.heap.size wr).alloc (Nat.le_refl _) (.cells #[.string D,.slice a4 nl c4,.slice a5 nb c5,.int .i64 ps] 66));have Y:Hid (wr.heap.size≠b):=by have:=HX.out.lt;rw [Hid];omega
    obtain ⟨W1,ar⟩:=Qx (wr.alloc (.cells #[.string D,.slice a4 nl c4,.slice a5 nb c5,.int .i64 ps] 66));rw [<- ar] at OT BT;have b5:=Hd ar;have J:=Hd (HX.out.below BT.out);have k:=Hd (ax.out.trans (BT.out.mono (Nat.le_of_lt HX.out.lt)));clear ar BT;go_upto_region 7 with (fail)
    rw [<- b5.out];clear b5;have y0:W1.cell? ⟨wr.heap.size,0,none⟩=some (.string D):=cr OT.out;go_wp2_with fail;go_at_call 48;refine (H0.out _ _ J.out HK.out).mono ?_;rintro e w2 j;rcases j.cases with ⟨c,rfl,m,C,f⟩ | ⟨c,rfl,f⟩
    rotate_left
    · go_wp2_with fail
      obtain ⟨n,hR⟩:=ac.out;exact ⟨rfl,r.out.trans ((k.out.trans f).mono (Nat.le_of_lt l.out)),.inr ⟨by rw [hR];simp at c ⊢;omega,rfl⟩⟩
    have bd:=Hd (C.block _ _ OT.out ⟨Y.out,not_u8T⟩);have N:=m.deep;have z2:=wt_frozen m 2;obtain ⟨k1,k2,k3⟩:=wt_deep m 1;obtain ⟨W3,ah⟩:=Qx (w2.setCell ⟨b,2,none⟩ (.int .i64 1));rw [<- ah] at k1 k2 k3;have e3:=ah.symm;have F:=Hd k1;have G:=Hd c;have i:=Hd ((k.out.trans f).trans k3);have al:=Hd (k2.block _ _ bd.out ⟨Y.out,not_u8T⟩);have y1:W3.cell? ⟨wr.heap.size,1,none⟩=some (.slice a4 nl c4):=cr al.out;clear j c m C f k1 k2 k3 ah y0 OT bd J k H0;go_wp2_with fail;go_at_call 47;clear e3 N z2;refine (H1.out _ _ i.out F.out G.out).mono ?_;rintro e w4 j;rcases j.cases with ⟨c,rfl,Q,C,R⟩ | ⟨c,rfl,R⟩
    rotate_left
    · go_wp2_with fail
      obtain ⟨n,hR⟩:=ac.out;exact ⟨rfl,r.out.trans ((i.out.trans R).mono (Nat.le_of_lt l.out)),.inr ⟨by rw [hR];simp at c ⊢;omega,rfl⟩⟩
    have b9:=Hd (C.block _ _ al.out ⟨Y.out,not_u8T⟩);have N:=Q.deep;have z2:=wt_frozen Q 2;obtain ⟨k1,k2,k3⟩:=wt_deep Q 0;obtain ⟨W5,au⟩:=Qx (w4.setCell ⟨b,2,none⟩ (.int .i64 0));rw [<- au] at k1 k2 k3;have e5:=au.symm;have bg:=Hd k1;have ca:=Hd c;have X:=Hd ((i.out.trans R).trans k3);have bq:=Hd (k2.block _ _ b9.out ⟨Y.out,not_u8T⟩);have y2:W5.cell? ⟨wr.heap.size,2,none⟩=some (.slice a5 nb c5):=cr bq.out;clear j c Q C R k1 k2 k3 au y1 al b9 F G i H1;go_wp2_with fail;go_at_call 49;clear e5 N z2;refine (H2.out _ _ X.out bg.out ca.out).mono ?_;rintro e w6 j;rcases j.cases with ⟨c,rfl,b1,C,S⟩ | ⟨c,rfl,S⟩
    rotate_left
    · go_wp2_with fail
      obtain ⟨n,hR⟩:=ac.out;exact ⟨rfl,r.out.trans ((X.out.trans S).mono (Nat.le_of_lt l.out)),.inr ⟨by rw [hR];simp at c ⊢;omega,rfl⟩⟩
    have bk:=Hd b1;have bx:=Hd c;have av:=Hd (X.out.trans S);clear j c b1 C S y2 bg ca X H2 bq;go_wp2_with fail;go_at_call 48;refine (H3.out _ _ bk.out bx.out).mono ?_;rintro e w7 j;rcases j.cases with ⟨c,rfl,b2,C,T⟩ | ⟨c,rfl,T⟩
    rotate_left
    · go_wp2_with fail
      obtain ⟨n,hR⟩:=ac.out;exact ⟨rfl,r.out.trans ((av.out.trans T).mono (Nat.le_of_lt l.out)),.inr ⟨by rw [hR];simp at c ⊢;omega,rfl⟩⟩
    have cp:=Hd b2;have c6:=Hd c;have cs:=Hd (av.out.trans T);clear j c b2 C T bk bx av H3;go_wp2_with fail;go_roundg (U-(t+1)+1)
    case measure=>have:=HM.out;omega
    case rel =>
     refine ⟨t+1,by simp,by omega,by omega,?_,?_,cs.out⟩
     · rw [bm.out];simpa only [List.append_assoc] using c6.out
     · rw [bm.out];simpa only [List.append_assoc] using cp.out
  · have b3 : t = U := by omega
    subst b3;have hX:=HX.out;have hK:=HK.out;rw [show a.take t=a by rw [cd.out,List.take_length]] at hX hK
    have be:=Hd hX;have cw:Hid (tx.length<=65536):=by rw [Hid,o.out];simp at hK ⊢;omega
    have A:tx=(t1++t2)++a.flatMap tT:=by rw [o.out,List.append_assoc]
    rw [<- A] at be;clear hX hK A;go_wp2_with fail;go_at_call 50;refine (wt_string be.out).mono ?_;rintro e w9 ⟨rfl,b0⟩;have HF:Hid (TxP w tx (.returned (.string ⟨tx.toArray⟩)) w9):=⟨r.out.trans ((ax.out.trans b0).mono (Nat.le_of_lt l.out)),.inl ⟨cw.out,rfl⟩⟩;clear b0;go_wp2_with fail;go_ret;exact HF.out
theorem any_err (v:Value) (w:World):(Instr.typeAssert (.iface 27 v) 20 27 true).run Tryz.prog w=.ok (.tuple #[v,.bool true]) w:=by kernel_rfl
theorem lv_str {w:World} {g:Nat} {z:ByteArray} (h:Own w g 9 #[.string z]):(loadVar 9 ⟨g,0,none⟩).run Tryz.prog w=.ok (.string z) w:=by
 have a:w.cell? ⟨g,0,none⟩=some (.string z):=cr h;go_simp
theorem res2s {fn:Func} {T U:TypeId} {i j:Tmp} (h:fn.results=#[.cell i T,.cell j U]) {tmps:Array Value} {P:Program} {w:World} {a b:Addr} {x y:Value} (ha:tmps.getD i undef=.pointer (some a)) (hb:tmps.getD j undef=.pointer (some b))
 (h1:(loadVar T a).run P w=.ok x w) (h2:(loadVar U b).run P w=.ok y w):(results fn tmps).run P w=.ok (.tuple #[x,y]) w:=by
 have c:tmps[i]?.getD undef=.pointer (some a):=by simpa using ha
 have d:tmps[j]?.getD undef=.pointer (some b):=by simpa using hb
 simp [results,h,c,d,asAddr,h1,h2,Result.andThen]
theorem catch_str {w:World} {n t y:Nat} {s0:ByteArray} {cy z:Int} {older:List PanicEntry} (h1:Own w t 9 #[.string s0]) (h2:Own w y 27 #[.int .i64 cy]) (hn:n<=t/\n<=y) (hd:t≠y) :
 CallsD Tryz.prog 42 #[.pointer (some ⟨t,0,none⟩),.pointer (some ⟨y,0,none⟩)] (.panicking ({ v:=.iface 27 (.int .i64 z),recovered:=false } :: older)) w fun e u' w' =>
  e=.returned (.tuple #[])/\u'=.panicking ({ v:=.iface 27 (.int .i64 z),recovered:=true } :: older)/\Own w' t 9 #[.string ⟨#[]⟩]/\Own w' y 27 #[.int .i64 z]/\Below n w w':=by
 refine callsD_of_wpS Tryz.func42 rfl fun c₀ cs hu=>?_
 apply wpS_seq;apply wpS_region;simp [wpOpsS,go_sem,recoverD,hu,Tryz.ntmps42,Exit.thenS];rw [show (#[.pointer (some ⟨t,0,none⟩),.pointer (some ⟨y,0,none⟩)]++(((Array.replicate 17 undef).setIfInBounds 4 (.iface 27 (.int .i64 z))).setIfInBounds 0 (.iface 27 (.int .i64 z))):Array Value)=#[.pointer (some ⟨t,0,none⟩),.pointer (some ⟨y,0,none⟩),.iface 27 (.int .i64 z),undef,undef,undef,.iface 27 (.int .i64 z),undef,undef,undef,undef,undef,undef,undef,undef,undef,undef,undef,undef] from by kernel_rfl]
 refine wpS_of_wp ?_;generalize hQ:(fun e a' w'=>bodyPostS _ _ _ _ _ e a' _ w')=Q
 have o:=any_eql;have f:=any_err;have i:w.cell? ⟨t,0,none⟩=some (.string s0):=cr h1;have p:=own_frozen h1 0;have j:w.setCell ⟨t,0,none⟩ (.string ⟨#[]⟩)=w.setRow t #[.string ⟨#[]⟩]:=setCell_row h1 0 _;have b:=h1.row #[.string ⟨#[]⟩];have a:=h2.other (g:=t) #[.string ⟨#[]⟩] (by omega)
 have l:(w.setRow t #[.string ⟨#[]⟩]).cell? ⟨y,0,none⟩=some (.int .i64 cy):=cr a;have m:=own_frozen a 0;have k:(w.setRow t #[.string ⟨#[]⟩]).setCell ⟨y,0,none⟩ (.int .i64 z)=(w.setRow t #[.string ⟨#[]⟩]).setRow y #[.int .i64 z]:=setCell_row a 0 _;have d:=Hd (b.other (g:=y) #[.int .i64 z] (by omega))
 have c:=Hd (a.row #[.int .i64 z]);have B:=Hd (Below.of_row (Below.of_row (Below.refl n w) (g:=t) (by omega) #[.string ⟨#[]⟩]) (g:=y) (by omega) #[.int .i64 z])
 clear b a;go_wp2_with fail;subst hQ;simp [bodyPostS,results,Tryz.results42];exact ⟨d.out,c.out,B.out⟩
theorem idle_str (x y:Value) (w:World):CallsD Tryz.prog 42 #[x,y] .returning w fun e u' w'=>e=.returned (.tuple #[])/\u'=.returning/\w'=w:=by
 have a:=any_nil;refine callsD_of_wpS Tryz.func42 rfl fun c₀ cs hu=>?_
 apply wpS_seq;apply wpS_region;simp [wpOpsS,go_sem,recoverD,hu,Tryz.ntmps42,Exit.thenS];rw [show (#[x,y]++(((Array.replicate 17 undef).setIfInBounds 4 .nilIface).setIfInBounds 0 .nilIface):Array Value)=#[x,y,.nilIface,undef,undef,undef,.nilIface,undef,undef,undef,undef,undef,undef,undef,undef,undef,undef,undef,undef] from by kernel_rfl]
 refine wpS_of_wp ?_;generalize hQ:(fun e a' w'=>bodyPostS _ _ _ _ _ e a' _ w')=Q
 go_wp2;subst hQ;cases c₀;simp_all [bodyPostS,results,Tryz.results42]
def MkP (w:World) (Y:Sum (List UInt8) Int) (e:Ending) (w':World):Prop:=Below w.heap.size w w'/\match Y with | .inl t=>e=.returned (.string ⟨t.toArray⟩) | .inr n=>e=.panicked (errP n)
def AttP (w:World) (Y:Sum (List UInt8) Int) (e:Ending) (w':World):Prop:=Below w.heap.size w w'/\e=.returned (match Y with | .inl t=>.tuple #[.string ⟨t.toArray⟩,.int .i64 0] | .inr n=>.tuple #[.string ⟨#[]⟩,.int .i64 n])
theorem p_att_print {pb:Nat} {w:World} {Y:Sum (List UInt8) Int} (hmk:∀ W,Below w.heap.size w W->Calls Tryz.prog 17 #[.pointer (some ⟨pb,0,none⟩)] W (MkP W Y)) :
 Calls Tryz.prog 16 #[.func (.func 17) #[] #[.pointer (some ⟨pb,0,none⟩)]] w (AttP w Y):=by
 have j:=Hd hmk;have O1:=(Own.new w 9 #[.string ⟨#[]⟩]).alloc (.cells #[.int .i64 0] 27);have s:=Own.new (w.alloc (.cells #[.string ⟨#[]⟩] 9)) 27 #[.int .i64 0];have q:Below w.heap.size w ((w.alloc (.cells #[.string ⟨#[]⟩] 9)).alloc (.cells #[.int .i64 0] 27)):=((Below.refl _ w).alloc (Nat.le_refl _) _).alloc (by simp only [World.size_alloc];omega) _
 have o:Hid (((w.alloc (.cells #[.string ⟨#[]⟩] 9)).alloc (.cells #[.int .i64 0] 27)).heap.size=w.heap.size+2):=by simp only [Hid,World.size_alloc]
 rw [World.size_alloc] at s;have y:∀ (fn:Fn) (first cap:Array Value) (w:World),(Instr.makeFunc fn first cap).run Tryz.prog w=.ok (.func fn first cap) w:=fun _ _ _ _=>rfl
 clear hmk;go_enter_defers Tryz.func16,Tryz.ntmps16;go_wp2_with fail;go_at_call 17;refine (j.out _ q).mono ?_;rintro e b ⟨a,p⟩;have A:w.heap.size+2<=b.heap.size:=by have:=a.size;have:=o.out;omega
 have d:=O1.below a;have r:=s.below a;have B1:=Hd (q.trans (a.mono (by have:=o.out;omega)))
 cases Y with
 | inr m =>
   obtain rfl:=p;clear a;go_wp2_with fail;refine leaves_cons (f:=42) (args:=#[.pointer (some ⟨w.heap.size,0,none⟩),.pointer (some ⟨w.heap.size+1,0,none⟩)]) (by simp) (by simp [go_sem]) ?_
   refine (catch_str (n:=w.heap.size) d r (by omega) (by omega)).mono ?_
   rintro e x H ⟨rfl,rfl,k,i,v⟩;exact ⟨_,res2s rfl rfl rfl (lv_str k) (lv_err i),B1.out.trans v,rfl⟩
 | inl t =>
   obtain rfl:=p;have F:b.cell? ⟨w.heap.size,0,none⟩=some (.string ⟨#[]⟩):=cr d;have I:=own_frozen d 0;have C:b.setCell ⟨w.heap.size,0,none⟩ (.string ⟨t.toArray⟩)=b.setRow w.heap.size #[.string ⟨t.toArray⟩]:=setCell_row d 0 _;have l:=d.row #[.string ⟨t.toArray⟩];have c:=r.other (g:=w.heap.size) #[.string ⟨t.toArray⟩] (by omega)
   have D:(b.setRow w.heap.size #[.string ⟨t.toArray⟩]).cell? ⟨w.heap.size+1,0,none⟩=some (.int .i64 0):=cr c;have z:=own_frozen c 0;have G:(b.setRow w.heap.size #[.string ⟨t.toArray⟩]).setCell ⟨w.heap.size+1,0,none⟩ (.int .i64 0)=(b.setRow w.heap.size #[.string ⟨t.toArray⟩]).setRow (w.heap.size+1) #[.int .i64 0]:=setCell_row c 0 _;have k:=Hd (l.other (g:=w.heap.size+1) #[.int .i64 0] (by omega))
   have i:=Hd (c.row #[.int .i64 0]);have B:=Hd (B1.out.trans (Below.of_row (Below.of_row (Below.refl w.heap.size b) (g:=w.heap.size) (by omega) #[.string ⟨t.toArray⟩]) (g:=w.heap.size+1) (by omega) #[.int .i64 0]))
   clear l c a;go_wp2_with fail;refine leaves_cons (f:=42) (args:=#[.pointer (some ⟨w.heap.size,0,none⟩),.pointer (some ⟨w.heap.size+1,0,none⟩)]) (by simp) (by simp [go_sem]) ?_
   refine (idle_str _ _ _).mono ?_;rintro e x E ⟨rfl,rfl,rfl⟩;exact ⟨_,res2s rfl rfl rfl (lv_str k.out) (lv_err i.out),B.out,rfl⟩
set_option maxRecDepth 100000
def mkY (ok:Bool) (t:List UInt8):Sum (List UInt8) Int:=bif ok then (if t.length<=65536 then .inl t else .inr 4) else .inr 40
def PrOk (x:Pg):Prop:=okP x/\rgP x/\rgD x.shared/\lenP x
theorem mk_Print {pb:Nat} {w:World} {bx:Array Value} {rr:Bool} {tt:List UInt8} (O:Own w pb 26 bx) (hsz:bx.size=3) (hnd:∀ W,Below w.heap.size w W->Calls Tryz.prog 18 #[.agg bx] W (NdP W rr)) (hmk:rr=true->∀ W,Below w.heap.size w W->Calls Tryz.prog 19 #[.agg bx] W (TxP W tt)) :
 Calls Tryz.prog 17 #[.pointer (some ⟨pb,0,none⟩)] w (MkP w (mkY rr tt)):=by
 have l:=Hd hnd;have f:=Hd hmk;have n:=Hd O;have p:=Hd hsz;clear hnd hmk;go_enter Tryz.func17,Tryz.ntmps17;go_wp2_with (refine ld rowPg rfl rfl rfl O hsz ?_);go_at_call 18;refine (l.out _ (Below.refl _ w)).mono ?_;rintro e o g;rcases g.cases with ⟨c,rfl,a⟩ | ⟨c,rfl,a⟩
 rotate_left
 · go_wp2_with fail
   exact ⟨rfl,a,by subst c;rfl⟩
 replace f:=Hd (f.out c _ a);subst c;have b:=Hd a;have k:=n.out.below a;clear a g O;go_wp2_with (refine ld rowPg rfl rfl rfl k hsz ?_);go_at_call 19;refine f.out.mono ?_;rintro e i ⟨a,⟨j,rfl⟩ | ⟨j,rfl⟩⟩
 · have d : MkP w (mkY true tt) (.returned (.string ⟨tt.toArray⟩)) i := ⟨b.out.trans (a.mono b.out.size), by unfold mkY; rw [cond_true, if_pos j]⟩
   have m:=Hd d;clear d a;go_wp2_with fail;go_ret;exact m.out
 · have d : MkP w (mkY true tt) (.panicked (errP 4)) i := ⟨b.out.trans (a.mono b.out.size), by unfold mkY; rw [cond_true, if_neg (by omega)]⟩
   go_wp2_with fail;exact ⟨rfl,d⟩
theorem p_Print {x:Pg} {v:Value} {w:World} (H:PrOk x) (hv:pA w x v) (TT:WTb w):Calls Tryz.prog 6 #[v] w (AttP w (mkY (rP x) (tP x))):=by
 obtain ⟨m,o,k,l,g,f,rfl,G,D,E⟩:=hv;obtain ⟨s,A,B,C⟩:=H;have b:∀ W,Below w.heap.size w W->pA W x (.agg #[.slice m x.shared.length o,.slice k x.locks.length l,.slice g x.threads.length f]):=fun W d=>pA_below ⟨m,o,k,l,g,f,rfl,G,D,E⟩ d
 obtain ⟨z,i⟩:=Qx x.shared.length;obtain ⟨q,p⟩:=Qx x.locks.length;obtain ⟨r,j⟩:=Qx x.threads.length;rw [<- i,<- p,<- j] at b ⊢;have c:∀ pb W,Below w.heap.size w W->Own W pb 26 #[.slice m z o,.slice k q l,.slice g r f]->Calls Tryz.prog 16 #[.func (.func 17) #[] #[.pointer (some ⟨pb,0,none⟩)]] W (AttP W (mkY (rP x) (tP x))):=fun pb W d O=>p_att_print fun W' hb'=>by
  have a:=d.trans (hb'.mono d.size);exact mk_Print (O.below hb') rfl (fun W2 hb3=>p_needProgram x s A _ W2 (b _ (a.trans (hb3.mono a.size))) (TT.below (a.trans (hb3.mono a.size))).pt) (fun hr W2 hb3=>p_program' x s A hr B C (b _ (a.trans (hb3.mono a.size))) (TT.below (a.trans (hb3.mono a.size))))
 generalize mkY (rP x) (tP x)=Y at c;have I:=Hd c;clear c b i p j G D E s A B C TT;have y:Below w.heap.size w (w.alloc (.cells #[.slice m z o,.slice k q l,.slice g r f] 26)):=(Below.refl _ w).alloc (Nat.le_refl _) _;have J:=Own.new w 26 #[.slice m z o,.slice k q l,.slice g r f];have K:∀ (fn:Fn) (first cap:Array Value) (w:World),(Instr.makeFunc fn first cap).run Tryz.prog w=.ok (.func fn first cap) w:=fun _ _ _ _=>rfl
 go_enter Tryz.func6,Tryz.ntmps6;go_wp2_with fail;go_at_call 16;refine (I.out _ _ y J).mono ?_;rintro e L ⟨d,rfl⟩;have F:=Hd (y.trans (d.mono y.size));clear d;cases Y with
 | inl t =>
   go_wp2_with fail;exact bodyPost_ret (results_tmp2 rfl _ _ _) rfl ⟨F.out,rfl⟩
 | inr n =>
   go_wp2_with fail;exact bodyPost_ret (results_tmp2 rfl _ _ _) rfl ⟨F.out,rfl⟩
structure Vz where
 pl:Addr
 nm:List Addr
def kAd (w:World) (g o:Nat):Nat × Nat:=match w.cell? ⟨g,o,none⟩ with
 | some (.slice (some ⟨h,q,_⟩) _ _)=>(h,q)
 | _=>(0,0)
theorem kAd_of {w:World} {g o h q n c:Nat} (hc:w.cell? ⟨g,o,none⟩=some (.slice (some ⟨h,q,none⟩) n c)):kAd w g o=(h,q):=by simp [kAd,hc]
mutual
def vE (w:World):Ex->Nat->Nat->List Vz
 | .mk k _ _ _ ks _,g,o=>⟨⟨g,o+5,none⟩,if k=2 then [⟨g,o+3,none⟩] else []⟩::vEs w ks (kAd w g (o+4)).1 (kAd w g (o+4)).2
def vEs (w:World):List Ex->Nat->Nat->List Vz
 | [],_,_=>[]
 | e::r,g,o=>vE w e g o++vEs w r g (o+6)
end
mutual
def vS (w:World):St->Nat->Nat->List Vz
 | .mk _ _ _ e b l _,g,o=>⟨⟨g,o+6,none⟩,[⟨g,o+1,none⟩,⟨g,o+2,none⟩]⟩::(vEs w e (kAd w g (o+3)).1 (kAd w g (o+3)).2++(vSs w b (kAd w g (o+4)).1 (kAd w g (o+4)).2++vSs w l (kAd w g (o+5)).1 (kAd w g (o+5)).2))
def vSs (w:World):List St->Nat->Nat->List Vz
 | [],_,_=>[]
 | e::r,g,o=>vS w e g o++vSs w r g (o+7)
end
def vD (w:World):Dc->Nat->Nat->List Vz
 | _,g,o=>[⟨⟨g,o+2,none⟩,[⟨g,o,none⟩]⟩]
def vDs (w:World):List Dc->Nat->Nat->List Vz
 | [],_,_=>[]
 | e::r,g,o=>vD w e g o++vDs w r g (o+3)
def vT (w:World):Th->Nat->Nat->List Vz
 | t,g,o=>⟨⟨g,o+3,none⟩,[⟨g,o,none⟩]⟩::(vDs w t.locals (kAd w g (o+1)).1 (kAd w g (o+1)).2++vSs w t.body (kAd w g (o+2)).1 (kAd w g (o+2)).2)
def vTs (w:World):List Th->Nat->Nat->List Vz
 | [],_,_=>[]
 | e::r,g,o=>vT w e g o++vTs w r g (o+4)
def vEsA (w:World) (l:List Ex) (a:Option Addr):List Vz:=match a with
 | some ⟨g,q,_⟩=>vEs w l g q
 | none=>[]
theorem vEsA_nil (w:World) (a:Option Addr):vEsA w [] a=[]:=by cases a <;> rfl
theorem vEs_app (w:World):∀ (a b:List Ex) (g o:Nat),vEs w (a++b) g o=vEs w a g o++vEs w b g (o+a.length*6)
 | [],b,g,o=>by simp [vEs]
 | x :: r, b, g, o => by
   rw [List.cons_append,vEs,vEs,vEs_app w r b g (o+6),List.append_assoc,List.length_cons,show o+6+r.length*6=o+(r.length+1)*6 by omega]
theorem vEs_take (w:World) (l:List Ex) (i g o:Nat) (x:Ex) (h:l[i]? = some x):vEs w (l.take (i+1)) g o=vEs w (l.take i) g o++vE w x g (o+i*6):=by
 have a:=(List.getElem?_eq_some_iff.1 h).1;have b:=(List.getElem?_eq_some_iff.1 h).2;rw [List.take_succ_eq_append_getElem a,vEs_app,List.length_take,Nat.min_eq_left (by omega),b]
 simp [vEs]
theorem kE_of {R:Nat->Prop} {w:World} {l:List Ex} {g o n c:Nat} {a:Option Addr} (hc:w.cell? ⟨g,o,none⟩=some (.slice a n c)) (h:exsAt R w l a):vEs w l (kAd w g o).1 (kAd w g o).2=vEsA w l a:=by
 rcases h with h | ⟨b,q,rfl,_⟩
 · obtain rfl : l = [] := by simpa using h
   rw [vEsA_nil];rfl
 · rw [kAd_of hc];rfl
def vSsA (w:World) (l:List St) (a:Option Addr):List Vz:=match a with
 | some ⟨g,q,_⟩=>vSs w l g q
 | none=>[]
theorem vSsA_nil (w:World) (a:Option Addr):vSsA w [] a=[]:=by cases a <;> rfl
theorem vSs_app (w:World):∀ (a b:List St) (g o:Nat),vSs w (a++b) g o=vSs w a g o++vSs w b g (o+a.length*7)
 | [],b,g,o=>by simp [vSs]
 | x :: r, b, g, o => by
   rw [List.cons_append,vSs,vSs,vSs_app w r b g (o+7),List.append_assoc,List.length_cons,show o+7+r.length*7=o+(r.length+1)*7 by omega]
theorem vSs_take (w:World) (l:List St) (i g o:Nat) (x:St) (h:l[i]? = some x):vSs w (l.take (i+1)) g o=vSs w (l.take i) g o++vS w x g (o+i*7):=by
 have a:=(List.getElem?_eq_some_iff.1 h).1;have b:=(List.getElem?_eq_some_iff.1 h).2;rw [List.take_succ_eq_append_getElem a,vSs_app,List.length_take,Nat.min_eq_left (by omega),b]
 simp [vSs]
theorem kS_of {R:Nat->Prop} {w:World} {l:List St} {g o n c:Nat} {a:Option Addr} (hc:w.cell? ⟨g,o,none⟩=some (.slice a n c)) (h:stsAt R w l a):vSs w l (kAd w g o).1 (kAd w g o).2=vSsA w l a:=by
 rcases h with h | ⟨b,q,rfl,_⟩
 · obtain rfl : l = [] := by simpa using h
   rw [vSsA_nil];rfl
 · rw [kAd_of hc];rfl
def vDsA (w:World) (l:List Dc) (a:Option Addr):List Vz:=match a with
 | some ⟨g,q,_⟩=>vDs w l g q
 | none=>[]
theorem vDsA_nil (w:World) (a:Option Addr):vDsA w [] a=[]:=by cases a <;> rfl
theorem vDs_app (w:World):∀ (a b:List Dc) (g o:Nat),vDs w (a++b) g o=vDs w a g o++vDs w b g (o+a.length*3)
 | [],b,g,o=>by simp [vDs]
 | x :: r, b, g, o => by
   rw [List.cons_append,vDs,vDs,vDs_app w r b g (o+3),List.append_assoc,List.length_cons,show o+3+r.length*3=o+(r.length+1)*3 by omega]
theorem vDs_take (w:World) (l:List Dc) (i g o:Nat) (x:Dc) (h:l[i]? = some x):vDs w (l.take (i+1)) g o=vDs w (l.take i) g o++vD w x g (o+i*3):=by
 have a:=(List.getElem?_eq_some_iff.1 h).1;have b:=(List.getElem?_eq_some_iff.1 h).2;rw [List.take_succ_eq_append_getElem a,vDs_app,List.length_take,Nat.min_eq_left (by omega),b]
 simp [vDs]
theorem kD_of {R:Nat->Prop} {w:World} {l:List Dc} {g o n c:Nat} {a:Option Addr} (hc:w.cell? ⟨g,o,none⟩=some (.slice a n c)) (h:dcsAt R w l a):vDs w l (kAd w g o).1 (kAd w g o).2=vDsA w l a:=by
 rcases h with h | ⟨b,q,rfl,_⟩
 · obtain rfl : l = [] := by simpa using h
   rw [vDsA_nil];rfl
 · rw [kAd_of hc];rfl
def vTsA (w:World) (l:List Th) (a:Option Addr):List Vz:=match a with
 | some ⟨g,q,_⟩=>vTs w l g q
 | none=>[]
theorem vTsA_nil (w:World) (a:Option Addr):vTsA w [] a=[]:=by cases a <;> rfl
theorem vTs_app (w:World):∀ (a b:List Th) (g o:Nat),vTs w (a++b) g o=vTs w a g o++vTs w b g (o+a.length*4)
 | [],b,g,o=>by simp [vTs]
 | x :: r, b, g, o => by
   rw [List.cons_append,vTs,vTs,vTs_app w r b g (o+4),List.append_assoc,List.length_cons,show o+4+r.length*4=o+(r.length+1)*4 by omega]
theorem vTs_take (w:World) (l:List Th) (i g o:Nat) (x:Th) (h:l[i]? = some x):vTs w (l.take (i+1)) g o=vTs w (l.take i) g o++vT w x g (o+i*4):=by
 have a:=(List.getElem?_eq_some_iff.1 h).1;have b:=(List.getElem?_eq_some_iff.1 h).2;rw [List.take_succ_eq_append_getElem a,vTs_app,List.length_take,Nat.min_eq_left (by omega),b]
 simp [vTs]
def preN (u:Value):Prop:=(∃ n,u=.int .u8 n)\/∃ s,u=.string s
def isPl (w:World) (g o:Nat):Prop:=∃ q u,o=q+1/\w.cell? ⟨g,q,none⟩=some u/\¬ preN u
structure Vok (R:Nat->Prop) (w:World) (v:Vz):Prop where
 reg:R v.pl.block
 pl:∃ n,w.cell? v.pl=some (.int .i64 n)
 spot:v.pl.spot=none
 is:isPl w v.pl.block v.pl.off
 nm:∀ a∈v.nm,R a.block/\a.spot=none/\∃ s,w.cell? a=some (.string s)
def NmS (w0 W:World) (l:List Addr) (s:Value):Prop:=(l=[]/\s=.slice none 0 0)\/∃ b,s=.slice (some ⟨b,0,none⟩) l.length l.length/\w0.heap.size<=b/\b<W.heap.size/\∀ i x,l[i]? = some x->W.cell? ⟨b,i,none⟩=some (.pointer (some x))
def Sk (w0 W:World):Prop:=w0.heap.size<=W.heap.size/\∀ g o v,w0.cell? ⟨g,o,none⟩=some v->(∃ k,v=.int .u8 k)\/(∃ a l c,v=.slice a l c)->W.cell? ⟨g,o,none⟩=some v
theorem Sk.u8 {w0 W:World} (h:Sk w0 W) {g o:Nat} {k:Int} (hc:w0.cell? ⟨g,o,none⟩=some (.int .u8 k)):W.cell? ⟨g,o,none⟩=some (.int .u8 k):=h.2 _ _ _ hc (.inl ⟨_,rfl⟩)
theorem Sk.sl {w0 W:World} (h:Sk w0 W) {g o l c:Nat} {a:Option Addr} (hc:w0.cell? ⟨g,o,none⟩=some (.slice a l c)):W.cell? ⟨g,o,none⟩=some (.slice a l c):=h.2 _ _ _ hc (.inr ⟨_,_,_,rfl⟩)
theorem sl_pre {a:Option Addr} {l c:Nat} : ¬ preN (.slice a l c):=fun h=>by rcases h with ⟨_,h⟩ | ⟨_,h⟩ <;> cases h
theorem wd_pre {n:Int} : ¬ preN (.int .i64 n):=fun h=>by rcases h with ⟨_,h⟩ | ⟨_,h⟩ <;> cases h
theorem vok_ex {R:Nat->Prop} {w:World} {k ps:Int} {nm:ByteArray} {g q kl kc:Nat} {ka:Option Addr} (hg:R g) (c3:w.cell? ⟨g,q+3,none⟩=some (.string nm)) (c4:w.cell? ⟨g,q+4,none⟩=some (.slice ka kl kc)) (c5:w.cell? ⟨g,q+5,none⟩=some (.int .i64 ps)):Vok R w ⟨⟨g,q+5,none⟩,if k=2 then [⟨g,q+3,none⟩] else []⟩ :=
 ⟨hg,⟨_,c5⟩,rfl,⟨q+4,_,rfl,c4,sl_pre⟩,fun a ha=>by
  split at ha
  · obtain rfl : a = ⟨g, q + 3, none⟩ := by simpa using ha
    exact ⟨hg,rfl,_,c3⟩
  · cases ha⟩
theorem vok_st {R:Nat->Prop} {w:World} {ps:Int} {n1 n2:ByteArray} {g q kl kc:Nat} {ka:Option Addr} (hg:R g) (c1:w.cell? ⟨g,q+1,none⟩=some (.string n1)) (c2:w.cell? ⟨g,q+2,none⟩=some (.string n2)) (c5:w.cell? ⟨g,q+5,none⟩=some (.slice ka kl kc)) (c6:w.cell? ⟨g,q+6,none⟩=some (.int .i64 ps)):Vok R w ⟨⟨g,q+6,none⟩,[⟨g,q+1,none⟩,⟨g,q+2,none⟩]⟩ :=
 ⟨hg,⟨_,c6⟩,rfl,⟨q+5,_,rfl,c5,sl_pre⟩,fun a ha=>by
  simp only [List.mem_cons,List.not_mem_nil,or_false] at ha
  rcases ha with rfl | rfl
  · exact ⟨hg,rfl,_,c1⟩
  · exact ⟨hg,rfl,_,c2⟩⟩
theorem vok_dc {R:Nat->Prop} {w:World} {wd ps:Int} {nm:ByteArray} {g q:Nat} (hg:R g) (c0:w.cell? ⟨g,q,none⟩=some (.string nm)) (c1:w.cell? ⟨g,q+1,none⟩=some (.int .i64 wd)) (c2:w.cell? ⟨g,q+2,none⟩=some (.int .i64 ps)):Vok R w ⟨⟨g,q+2,none⟩,[⟨g,q,none⟩]⟩ :=
 ⟨hg,⟨_,c2⟩,rfl,⟨q+1,_,rfl,c1,wd_pre⟩,fun a ha=>by
  obtain rfl:a=⟨g,q,none⟩:=by simpa using ha
  exact ⟨hg,rfl,_,c0⟩⟩
theorem vok_th {R:Nat->Prop} {w:World} {ps:Int} {nm:ByteArray} {g q kl kc:Nat} {ka:Option Addr} (hg:R g) (c0:w.cell? ⟨g,q,none⟩=some (.string nm)) (c2:w.cell? ⟨g,q+2,none⟩=some (.slice ka kl kc)) (c3:w.cell? ⟨g,q+3,none⟩=some (.int .i64 ps)):Vok R w ⟨⟨g,q+3,none⟩,[⟨g,q,none⟩]⟩ :=
 ⟨hg,⟨_,c3⟩,rfl,⟨q+2,_,rfl,c2,sl_pre⟩,fun a ha=>by
  obtain rfl:a=⟨g,q,none⟩:=by simpa using ha
  exact ⟨hg,rfl,_,c0⟩⟩
theorem nms_one {w0 W:World} {x:Addr} {T:TypeId} (h:w0.heap.size<=W.heap.size):NmS w0 (W.alloc (.cells #[.pointer (some x)] T)) [x] (.slice (some ⟨W.heap.size,0,none⟩) 1 1) :=
 .inr ⟨W.heap.size,rfl,h,by simp,fun i y hy=>by
  cases i with
  | zero => obtain rfl : x = y := by simpa using hy
            rw [cell_of_row _ _ 0 _ _ _ (Own.new W T #[.pointer (some x)])];rfl
  | succ i=>simp at hy⟩
theorem nms_two {w0 W:World} {x y:Addr} {T:TypeId} (h:w0.heap.size<=W.heap.size):NmS w0 (W.alloc (.cells #[.pointer (some x),.pointer (some y)] T)) [x,y] (.slice (some ⟨W.heap.size,0,none⟩) 2 2) :=
 .inr ⟨W.heap.size,rfl,h,by simp,fun i z hz=>by
  match i,hz with
  | 0, hz => obtain rfl : x = z := by simpa using hz
             rw [cell_of_row _ _ 0 _ _ _ (Own.new W T #[.pointer (some x),.pointer (some y)])];rfl
  | 1, hz => obtain rfl : y = z := by simpa using hz
             rw [cell_of_row _ _ 1 _ _ _ (Own.new W T #[.pointer (some x),.pointer (some y)])];rfl
  | i+2,hz=>simp at hz⟩
theorem nms_none {w0 W:World} : NmS w0 W [] (.slice none 0 0):=.inl ⟨rfl,rfl⟩
open Go.RowKit
set_option linter.unusedVariables false
structure Sr where
 ts:List Tk
 pos:Int
 rule:Int
section
variable (L:Int)
end
open Go.RowKit
set_option linter.unusedVariables false
theorem Own.setJ {W:World} {b:Nat} {T:TypeId} {cs:Array Value} (h:Own W b T cs) (j:Nat) (v:Value):Own (W.setCell ⟨b,j,none⟩ v) b T (cs.setIfInBounds j v):=heap_setCell_same W b j _ _ v h
theorem row3 {w:World} {g:Nat} {T:TypeId} {a b c:Value} (h:Own w g T #[a,b,c]) :
 (w.cell? ⟨g,0,none⟩=some a/\w.cell? ⟨g,1,none⟩=some b/\w.cell? ⟨g,2,none⟩=some c)/\(w.frozen? ⟨g,0,none⟩=false/\w.frozen? ⟨g,1,none⟩=false/\w.frozen? ⟨g,2,none⟩=false) :=
 ⟨⟨cell_of_row w g 0 _ _ _ h,cell_of_row w g 1 _ _ _ h,cell_of_row w g 2 _ _ _ h⟩,frozen_of_row w g 0 _ _ h,frozen_of_row w g 1 _ _ h,frozen_of_row w g 2 _ _ h⟩
end Go.Proofs.YtbgfkdiihnidaaaGreatDoor

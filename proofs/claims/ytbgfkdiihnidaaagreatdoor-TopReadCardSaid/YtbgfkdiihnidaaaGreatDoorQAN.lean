import Derived.Test.YtbgfkdiihnidaaaGreatDoorQAM
set_option maxRecDepth 100000
set_option maxHeartbeats 20000000
namespace Go.Proofs.YtbgfkdiihnidaaaGreatDoor
open Go.RowKit
set_option linter.unusedVariables false
set_option maxRecDepth 100000
def cat (l:List ByteArray):List UInt8:=l.flatMap fun s=>s.data.toList
theorem cat_cons (s:ByteArray) (l:List ByteArray):cat (s::l)=s.data.toList++cat l:=by simp [cat]
theorem cat_append (a b:List ByteArray):cat (a++b)=cat a++cat b:=by simp [cat]
theorem cat_nil:cat []=[]:=rfl
def PutP (b:Nat) (txt t:List UInt8) (deep:Int) (fs:List Value) (W:World) (e:Ending) (w':World):Prop :=
 Below b W w'/\((txt++t).length<=65536/\e=.returned (.tuple #[])/\Wt b (txt++t) deep fs w'/\Keep (selW b) W w'\/65536<(txt++t).length/\e=.panicked (errP 4))
def SA (b:Nat) (W:World) (a:Option Addr) (l:List ByteArray):Prop:=l=[]\/∃ (g:Nat) (cs:Array Value),a=some ⟨g,0,none⟩/\g≠b/\Own W g 9 cs/\∀ (j:Nat) (s:ByteArray),l[j]? = some s->cs[j]? = some (.string s)
theorem not_u8 {cs:Array Value} : ¬ IsTy 5 (.cells cs 9):=by
 rintro ⟨c,f,h⟩;cases h
theorem SA.keep {b:Nat} {W W':World} {a:Option Addr} {l:List ByteArray} (h:SA b W a l) (k:Keep (selW b) W W'):SA b W' a l:=by
 rcases h with h | ⟨g,d,f,c,j,i⟩
 · exact .inl h
 · exact .inr ⟨g,d,f,c,k.block _ _ j ⟨c,not_u8⟩,i⟩
theorem p_put {b:Nat} {txt:List UInt8} {deep:Int} {fs:List Value} {w:World} (h:Wt b txt deep fs w) (ht:txt.length<=65536) {l:List ByteArray} (hl:l.length<=9223372036854775807) (hs:∀ s∈l,s.size<=140737488289792) {a:Option Addr} {c:Nat} (ha:SA b w a l) :
 Calls Tryz.prog 114 #[.pointer (some ⟨b,0,none⟩),.slice a l.length c] w (PutP b txt (cat l) deep fs w):=by
 have D:Hid (∀ t W,Wt b t deep fs W->Calls Tryz.prog 155 #[.pointer (some ⟨b,0,none⟩)] W fun e w'=>e=.returned (.int .i64 t.length)/\W=w'):=fun t W h=>wt_len h
 have J:Hid (∀ t W s,Wt b t deep fs W->t.length+s.size<=140737488355328->Calls Tryz.prog 156 #[.pointer (some ⟨b,0,none⟩),.string s] W fun e w'=>e=.returned (.tuple #[.int .i64 s.size,.nilIface])/\Wt b (t++s.data.toList) deep fs w'/\Keep (selW b) W w'/\Below b W w'):=fun t W s h hb=>wt_write h s hb
 have HW:=Hd h;have HS:=Hd hs;have E1:=Hd ha;have HT:=Hd ht;obtain ⟨n,H⟩:=Qx l.length;rw [<- H] at hl ⊢;have U:=Hd H;clear h hs ha ht H;go_enter Tryz.func114,Tryz.ntmps114;go_wp2_with fail;go_loopg [8] (n+1) (fun m' u W=>∃ i:Nat,u=.int .i64 (i:Int)/\i<=n/\m'=n-i+1/\(txt++cat (l.take i)).length<=65536/\Wt b (txt++cat (l.take i)) deep fs W/\Keep (selW b) w W/\Below b w W)
 case atStart=>exact ⟨0,rfl,Nat.zero_le _,by omega,by rw [List.take_zero,cat_nil,List.append_nil];exact HT.out,by rw [List.take_zero,cat_nil,List.append_nil];exact HW.out,Keep.refl _ _,Below.refl _ _⟩
 case round =>
  obtain ⟨i,rfl,hi,S,v,p,y,C⟩:=hrel;have HM:=Hd S;have F:=Hd v;have M:=Hd y;have L:=Hd C;have o:=Hd p;clear S v y C p;by_cases hin:i<n
  · have m : i < l.length := by have := U.out; omega
    have I:l[i]? = some l[i]:=List.getElem?_eq_getElem m;have d:l[i]∈l:=List.getElem_mem m;have k:l.take (i+1)=l.take i++[l[i]]:=by rw [List.take_succ_eq_append_getElem m]
    have f:l=l.take i++(l[i]::l.drop (i+1)):=by rw [<- List.drop_eq_getElem_cons m,List.take_append_drop]
    generalize l[i]=s at I d k f;have X:(i:Int)<(n:Int):=by omega
    rcases E1.out.keep M.out with e | ⟨g,cs,rfl,hg,V,T⟩
    · subst e;simp at m
    have f0:wr.cell? ⟨g,i,none⟩=some (.string s):=by rw [cell_of_row _ _ i _ _ _ V];exact T i s I
    have Z:s.size<=140737488289792:=HS.out s d;have Q:=Hd k;have N:=Hd f;clear V T hg I d m k f;obtain ⟨E,j⟩:=Qx (txt++cat (l.take i));rw [<- j] at F o;have z:=Hd j;clear j;have ae:=F.out;have af:IntKind.i64.wrap ((E.length:Int)+(s.size:Int))=(E.length:Int)+(s.size:Int):=IntWalk.i64_in _ (by omega)
    by_cases hbig:65536<(E.length:Int)+(s.size:Int)
    · go_wp2_with (first | (go_at_call 155; refine (D.out _ _ o.out).mono ?_; rintro e Y ⟨rfl, rfl⟩))
      have G:65536<(txt++cat l).length:=by
       have h1:=z.out;have R:=congrArg cat N.out;rw [cat_append,cat_cons] at R;rw [R,<- List.append_assoc,<- h1,List.length_append,List.length_append];have:s.data.toList.length=s.size:=Array.length_toList;omega
      exact ⟨rfl,L.out,.inr ⟨G,rfl⟩⟩
    · go_wp2_with (first | (go_at_call 155; refine (D.out _ _ o.out).mono ?_; rintro e Y ⟨rfl, rfl⟩))
      go_at_call 156;refine (J.out _ _ _ o.out (by omega)).mono ?_
      rintro e w3 ⟨rfl,r,A,q⟩;have O:=Hd r;have P:=Hd (M.out.trans A);have K:=Hd (L.out.trans q);clear r A q;go_wp2_with fail;go_roundg (n-(i+1)+1)
      case measure=>have:=HM.out;omega
      case rel =>
       have B:txt++cat (l.take (i+1))=E++s.data.toList:=by
        rw [Q.out,cat_append,<- List.append_assoc,<- z.out];simp [cat]
       refine ⟨i+1,rfl,by omega,by omega,?_,by rw [B];exact O.out,P.out,K.out⟩
       rw [B,List.length_append];have:s.data.toList.length=s.size:=Array.length_toList;omega
  · have : i = n := by omega
    subst this;have x:l.take i=l:=List.take_of_length_le (by have:=U.out;omega)
    rw [x] at F o;go_wp2_with fail;exact bodyPost_end (results_none rfl _ _ _) rfl ⟨L.out,.inl ⟨F.out,rfl,o.out,M.out⟩⟩
def SameC (e:Ex):Prop:=okE e->∀ (f:Ex) (v u:Value) (w:World),exA w e v->exA w f u->Calls Tryz.prog 117 #[v,u] w fun e' w'=>e'=.returned (.bool (sameE e f))/\Below w.heap.size w w'
theorem equal_ex {l:List Ex} (HI:∀ x∈l,SameC x) (HO:okEs l) {m:List Ex} {a b:Option Addr} {c1 c2:Nat} {w:World} (hl:l.length<=9223372036854775807) (h1:exsAt (fun _=>True) w l a) (h2:exsAt (fun _=>True) w m b) :
 Calls Tryz.prog 116 #[.slice a l.length c1,.slice b m.length c2,.func (.func 117) #[] #[]] w fun e w'=>e=.returned (.bool (sameEs l m))/\Below w.heap.size w w':=by
 by_cases hne:l.length=m.length
 · obtain ⟨R, z⟩ : ∃ R, R = sameEs l m := ⟨_, rfl⟩
   rw [<- z];have a8:=Hd z;have HI:=Hd HI;have HO:=Hd HO;have HL:=Hd hl;have Y:=Hd hne;have E1:=Hd h1;have E2:=Hd h2;rw [<- hne];obtain ⟨n,N⟩:=Qx l.length;rw [<- N];have HN:=Hd N;have bo:n<=9223372036854775807:=by omega
   clear hl hne h1 h2 z N;go_enter Tryz.func116,Tryz.ntmps116;go_wp2_with fail;go_loopg [17] (n+1) (fun m' u W=>∃ i:Nat,u=.int .i64 (i:Int)/\i<=n/\m'=n-i+1/\sameFrom l m i=R/\Below w.heap.size w W)
   case atStart=>exact ⟨0,rfl,Nat.zero_le _,by omega,a8.out.symm,Below.refl _ w⟩
   case round =>
    obtain ⟨i,rfl,hi,hm,z,hb⟩:=hrel;have HB:=Hd hb;have ac:=Hd z;have HM:=Hd hm;clear hb z hm;by_cases hin:i<n
    · have bk := Hd hin
      have X:i<l.length:=by have:=HN.out;omega
      have im:i<m.length:=by have:=Y.out;omega
      have g1:l[i]? = some l[i]:=List.getElem?_eq_getElem X;have g2:m[i]? = some m[i]:=List.getElem?_eq_getElem im;have f:l[i]∈l:=List.getElem_mem X;have v:=sameFrom_step X im;generalize l[i]=x at g1 v f;generalize m[i]=y at g2 v;have HX:=Hd (HI.out x f (okEs_mem HO.out x f));rcases E1.out with e | ⟨g,q,rfl,_,e1⟩
      · cases l with
        | nil=>simp at X
        | cons=>cases e
      rcases E2.out with e | ⟨g',q',rfl,_,e2⟩
      · cases m with
        | nil=>simp at im
        | cons=>cases e
      have x1:=exsIn_get i x e1 g1;have y1:=exsIn_get i y e2 g2;have H:=Hd (ac.out.symm.trans v);obtain ⟨k,o,wd,A,F,D⟩:=x;obtain ⟨M,U,r,s,p,j⟩:=y;obtain ⟨a0,a1,a2,a3,⟨O,K,a4,ad⟩,a5⟩:=x1;obtain ⟨G,L,S,T,⟨kb,Z,P,aa⟩,V⟩:=y1;have a7:=Hd ad;have ao:=Hd aa;have E:=lt_of_at a0;have d:=lt_of_at G;simp only at E d;have c:=HB.out;have a0:=cb c E a0;have a1:=cb c E a1;have a2:=cb c E a2;have a3:=cb c E a3;have a4:=cb c E a4;have a5:=cb c E a5;have ae:=c.size;have BB:=Hd (And.intro G (And.intro L (And.intro S (And.intro T (And.intro P V)))));clear v f g1 g2 e1 e2 ad aa G L S T P V X im;have Z1:=Own.new wr 167 #[.int .u8 0,.int .u8 0,.int .i64 0,.string ⟨#[]⟩,.slice none 0 0,.int .i64 0];have K1:=Below.of_row ((Below.refl wr.heap.size wr).alloc (Nat.le_refl _) (.cells #[.int .u8 0,.int .u8 0,.int .i64 0,.string ⟨#[]⟩,.slice none 0 0,.int .i64 0] 167)) (g:=wr.heap.size) (Nat.le_refl _) #[.int .u8 k,.int .u8 o,.int .i64 wd,.string A,.slice O F.length K,.int .i64 D];have P1:=Hd (Z1.row #[.int .u8 k,.int .u8 o,.int .i64 wd,.string A,.slice O F.length K,.int .i64 D]);have s1:=(size_setRow (wr.alloc (.cells #[.int .u8 0,.int .u8 0,.int .i64 0,.string ⟨#[]⟩,.slice none 0 0,.int .i64 0] 167)) wr.heap.size #[.int .u8 k,.int .u8 o,.int .i64 wd,.string A,.slice O F.length K,.int .i64 D]).trans (World.size_alloc _ _);have I:=Hd K1;have ah:=Hd s1;clear K1 s1
      go_upto_region 6 with (first | (refine st rowEx rfl rfl Z1 rfl rfl (by rfl) (by rfl) (by kernel_rfl) ?_))
      obtain ⟨J,ag⟩:=Qx ((wr.alloc (.cells #[.int .u8 0,.int .u8 0,.int .i64 0,.string ⟨#[]⟩,.slice none 0 0,.int .i64 0] 167)).setRow wr.heap.size #[.int .u8 k,.int .u8 o,.int .i64 wd,.string A,.slice O F.length K,.int .i64 D]);rw [<- ag] at P1 I ah ⊢;clear ag Z1 a0 a1 a2 a3 a4 a5;obtain ⟨G,L,S,T,P,V⟩:=BB.out;have c:=HB.out.trans (I.out.mono ae);have G:=cb c d G;have L:=cb c d L;have S:=cb c d S;have T:=cb c d T;have P:=cb c d P;have V:=cb c d V;have Z2:=Own.new J 167 #[.int .u8 0,.int .u8 0,.int .i64 0,.string ⟨#[]⟩,.slice none 0 0,.int .i64 0];have K2:=Hd (Below.of_row ((Below.refl J.heap.size J).alloc (Nat.le_refl _) (.cells #[.int .u8 0,.int .u8 0,.int .i64 0,.string ⟨#[]⟩,.slice none 0 0,.int .i64 0] 167)) (g:=J.heap.size) (Nat.le_refl _) #[.int .u8 M,.int .u8 U,.int .i64 r,.string s,.slice kb p.length Z,.int .i64 j]);have P2:=Hd (Z2.row #[.int .u8 M,.int .u8 U,.int .i64 r,.string s,.slice kb p.length Z,.int .i64 j]);clear c;go_upto_region 7 with (first | (refine st rowEx rfl rfl Z2 rfl rfl (by rfl) (by rfl) (by kernel_rfl) ?_))
      obtain ⟨W2,ab⟩:=Qx ((J.alloc (.cells #[.int .u8 0,.int .u8 0,.int .i64 0,.string ⟨#[]⟩,.slice none 0 0,.int .i64 0] 167)).setRow J.heap.size #[.int .u8 M,.int .u8 U,.int .i64 r,.string s,.slice kb p.length Z,.int .i64 j]);rw [<- ab] at P2 K2 ⊢;clear ab Z2 G L S T P V;have o1:=P1.out.below K2.out;have o2:=P2.out;have Q:Hid (Below w.heap.size w W2):=(HB.out.trans (I.out.mono ae)).trans (K2.out.mono (by have:=ah.out;omega))
      have HC:Hid (Calls Tryz.prog 117 #[.agg #[.int .u8 k,.int .u8 o,.int .i64 wd,.string A,.slice O F.length K,.int .i64 D],.agg #[.int .u8 M,.int .u8 U,.int .i64 r,.string s,.slice kb p.length Z,.int .i64 j]] W2 fun e' w'=>e'=.returned (.bool (sameE (.mk k o wd A F D) (.mk M U r s p j)))/\Below W2.heap.size W2 w') :=
       HX.out _ _ _ _ ⟨O,K,rfl,exsAt_below a7.out Q.out⟩ ⟨kb,Z,rfl,exsAt_below ao.out Q.out⟩
      generalize sameE (.mk k o wd A F D) (.mk M U r s p j)=B at H HC;cases B with
      | false =>
        go_wp2_with (first | (refine ld rowEx rfl rfl rfl o1 rfl ?_) | (refine ld rowEx rfl rfl rfl o2 rfl ?_) | (go_at_call 117;refine (HC.out).mono ?_;rintro e w3 ⟨rfl,t⟩;have C:=Hd t;clear t))
        go_ret;refine ⟨by rw [H.out];rfl,Q.out.trans (C.out.mono (Q.out.size))⟩
      | true =>
        go_wp2_with (first | (refine ld rowEx rfl rfl rfl o1 rfl ?_) | (refine ld rowEx rfl rfl rfl o2 rfl ?_) | (go_at_call 117;refine (HC.out).mono ?_;rintro e w3 ⟨rfl,t⟩;have C:=Hd t;clear t))
        go_roundg (n-(i+1)+1)
        case measure=>have:=HM.out;omega
        case rel=>exact ⟨i+1,rfl,by omega,by omega,by rw [H.out];simp,Q.out.trans (C.out.mono (Q.out.size))⟩
    · have : i = n := by omega
      subst this;have z:R=true:=by rw [<- ac.out];exact sameFrom_end (by have:=HN.out;omega) (by have:=Y.out;have:=HN.out;omega)
      have az:=Hd z;clear z;go_wp2_with fail;go_ret;exact ⟨by rw [az.out];rfl,HB.out⟩
 · rw [sameEs_ne hne]
   obtain ⟨n,N⟩:=Qx l.length;obtain ⟨k,hk⟩:=Qx m.length;rw [<- N] at hne hl ⊢;rw [<- hk] at hne ⊢;have hq:((n:Int)==(k:Int))=false:=by simp;omega
   clear h1 h2 HI HO N hk;go_enter Tryz.func116,Tryz.ntmps116;go_wp2_with fail;go_ret;exact ⟨rfl,Below.refl _ w⟩
theorem same_no0 {k o wd ps k' o' wd' ps':Int} {nm nm':ByteArray} {n n' kc kd:Nat} {ka kb:Option Addr} (w:World) (qk:(k==k')=false) :
 Calls Tryz.prog 117 #[.agg #[.int .u8 k,.int .u8 o,.int .i64 wd,.string nm,.slice ka n kc,.int .i64 ps],.agg #[.int .u8 k',.int .u8 o',.int .i64 wd',.string nm',.slice kb n' kd,.int .i64 ps']] w fun e' w'=>e'=.returned (.bool false)/\Below w.heap.size w w':=by
 go_enter Tryz.func117,Tryz.ntmps117;go_wp2_with fail;go_ret;exact ⟨rfl,(((Below.refl _ w).alloc (Nat.le_refl _) _).alloc (by rw [World.size_alloc];omega) _)⟩
theorem same_no1 {k o wd ps k' o' wd' ps':Int} {nm nm':ByteArray} {n n' kc kd:Nat} {ka kb:Option Addr} (w:World) (qk:(k==k')=true) (qo:(o==o')=false) :
 Calls Tryz.prog 117 #[.agg #[.int .u8 k,.int .u8 o,.int .i64 wd,.string nm,.slice ka n kc,.int .i64 ps],.agg #[.int .u8 k',.int .u8 o',.int .i64 wd',.string nm',.slice kb n' kd,.int .i64 ps']] w fun e' w'=>e'=.returned (.bool false)/\Below w.heap.size w w':=by
 go_enter Tryz.func117,Tryz.ntmps117;go_wp2_with fail;go_ret;exact ⟨rfl,(((Below.refl _ w).alloc (Nat.le_refl _) _).alloc (by rw [World.size_alloc];omega) _)⟩
theorem same_no2 {k o wd ps k' o' wd' ps':Int} {nm nm':ByteArray} {n n' kc kd:Nat} {ka kb:Option Addr} (w:World) (qk:(k==k')=true) (qo:(o==o')=true) (qw:(wd==wd')=false) :
 Calls Tryz.prog 117 #[.agg #[.int .u8 k,.int .u8 o,.int .i64 wd,.string nm,.slice ka n kc,.int .i64 ps],.agg #[.int .u8 k',.int .u8 o',.int .i64 wd',.string nm',.slice kb n' kd,.int .i64 ps']] w fun e' w'=>e'=.returned (.bool false)/\Below w.heap.size w w':=by
 go_enter Tryz.func117,Tryz.ntmps117;go_wp2_with fail;go_ret;exact ⟨rfl,(((Below.refl _ w).alloc (Nat.le_refl _) _).alloc (by rw [World.size_alloc];omega) _)⟩
theorem same_no3 {k o wd ps k' o' wd' ps':Int} {nm nm':ByteArray} {n n' kc kd:Nat} {ka kb:Option Addr} (w:World) (qk:(k==k')=true) (qo:(o==o')=true) (qw:(wd==wd')=true) (qn:(nm.toList==nm'.toList)=false) :
 Calls Tryz.prog 117 #[.agg #[.int .u8 k,.int .u8 o,.int .i64 wd,.string nm,.slice ka n kc,.int .i64 ps],.agg #[.int .u8 k',.int .u8 o',.int .i64 wd',.string nm',.slice kb n' kd,.int .i64 ps']] w fun e' w'=>e'=.returned (.bool false)/\Below w.heap.size w w':=by
 go_enter Tryz.func117,Tryz.ntmps117;go_wp2_with fail;go_ret;exact ⟨rfl,(((Below.refl _ w).alloc (Nat.le_refl _) _).alloc (by rw [World.size_alloc];omega) _)⟩
theorem same_yes {k o wd ps k' o' wd' ps':Int} {nm nm':ByteArray} {n n' kc kd:Nat} {ka kb:Option Addr} (w:World) (qk:(k==k')=true) (qo:(o==o')=true) (qw:(wd==wd')=true) (qn:(nm.toList==nm'.toList)=true) {B:Bool} (HC:∀ W,Below w.heap.size w W->Calls Tryz.prog 116 #[.slice ka n kc,.slice kb n' kd,.func (.func 117) #[] #[]] W fun e w'=>e=.returned (.bool B)/\Below W.heap.size W w') :
 Calls Tryz.prog 117 #[.agg #[.int .u8 k,.int .u8 o,.int .i64 wd,.string nm,.slice ka n kc,.int .i64 ps],.agg #[.int .u8 k',.int .u8 o',.int .i64 wd',.string nm',.slice kb n' kd,.int .i64 ps']] w fun e' w'=>e'=.returned (.bool B)/\Below w.heap.size w w':=by
 have HC:=Hd HC;have b:Hid (Below w.heap.size w ((w.alloc (.cells #[.int .u8 k,.int .u8 o,.int .i64 wd,.string nm,.slice ka n kc,.int .i64 ps] 167)).alloc (.cells #[.int .u8 k',.int .u8 o',.int .i64 wd',.string nm',.slice kb n' kd,.int .i64 ps'] 167))):=(((Below.refl _ w).alloc (Nat.le_refl _) _).alloc (by rw [World.size_alloc];omega) _)
 go_enter Tryz.func117,Tryz.ntmps117;go_wp2_with (go_at_call 116;refine (HC.out _ b.out).mono ?_;rintro e d ⟨rfl,a⟩;have c:=Hd a;clear a);go_ret;exact ⟨rfl,b.out.trans (c.out.mono b.out.size)⟩
theorem p_same:∀ e,SameC e:=by
 intro e;induction e using Ex.ind with
 | h k o wd nm ks ps ih =>
   intro i f v u w n p;obtain ⟨d,g,a,c,b,l⟩:=f;obtain ⟨r,s,rfl,j⟩:=n;obtain ⟨t,x,rfl,m⟩:=p;simp only [Ex.kind,Ex.op,Ex.wd,Ex.name,Ex.kids,Ex.pos];have q:sameE (.mk k o wd nm ks ps) (.mk d g a c b l)=(k==d&&o==g&&wd==a&&nm.data.toList==c.data.toList&&sameEs ks b):=by simp only [sameE]
   rw [q];by_cases h1:k=d
   · by_cases h2 : o = g
     · by_cases h3 : wd = a
       · by_cases h4 : nm.data.toList = c.data.toList
         · rw [show (k == d && o == g && wd == a && nm.data.toList == c.data.toList && sameEs ks b) = sameEs ks b by simp [h1, h2, h3, h4]]
           exact same_yes w (by simpa using h1) (by simpa using h2) (by simpa using h3) (by rw [Lib.toList_data,Lib.toList_data];simpa using h4) fun W hb=>equal_ex ih i.2 i.1 (exsAt_below j hb) (exsAt_below m hb)
         · rw [show (k == d && o == g && wd == a && nm.data.toList == c.data.toList && sameEs ks b) = false by rw [beq_eq_false_iff_ne.2 h4]; simp]
           exact same_no3 w (by simpa using h1) (by simpa using h2) (by simpa using h3) (by rw [Lib.toList_data,Lib.toList_data];simpa using h4)
       · rw [show (k == d && o == g && wd == a && nm.data.toList == c.data.toList && sameEs ks b) = false by simp [h3]]
         exact same_no2 w (by simpa using h1) (by simpa using h2) (by simpa using h3)
     · rw [show (k == d && o == g && wd == a && nm.data.toList == c.data.toList && sameEs ks b) = false by simp [h2]]
       exact same_no1 w (by simpa using h1) (by simpa using h2)
   · rw [show (k == d && o == g && wd == a && nm.data.toList == c.data.toList && sameEs ks b) = false by simp [h1]]
     exact same_no0 w (by simpa using h1)
def sameBy {α:Type} (f:α->α->Bool):List α->List α->Bool
 | [],[]=>true
 | x::r,y::s=>f x y&&sameBy f r s
 | _,_=>false
theorem sameBy_len {α:Type} {f:α->α->Bool} : ∀ (l m:List α),sameBy f l m=true->l.length=m.length
 | [],[],_=>rfl
 | [],_::_,h=>by simp [sameBy] at h
 | _::_,[],h=>by simp [sameBy] at h
 | x :: r, y :: s, h => by
   simp only [sameBy,Bool.and_eq_true] at h
   have:=sameBy_len r s h.2
   simp [this]
theorem sameBy_ne {α:Type} {f:α->α->Bool} {l m:List α} (h:l.length≠m.length):sameBy f l m=false:=by
 cases hs:sameBy f l m with
 | false=>rfl
 | true=>exact absurd (sameBy_len l m hs) h
theorem sameBy_step {α:Type} {f:α->α->Bool} {l m:List α} {i:Nat} (hl:i<l.length) (hm:i<m.length):sameBy f (l.drop i) (m.drop i)=(f l[i] m[i]&&sameBy f (l.drop (i+1)) (m.drop (i+1))):=by
 rw [List.drop_eq_getElem_cons hl,List.drop_eq_getElem_cons hm];rfl
theorem sameBy_end {α:Type} {f:α->α->Bool} {l m:List α} {i:Nat} (hl:l.length<=i) (hm:m.length<=i):sameBy f (l.drop i) (m.drop i)=true:=by
 rw [List.drop_of_length_le hl,List.drop_of_length_le hm];rfl
theorem stsAt_below {w w':World} {l:List St} {a:Option Addr} (h:stsAt (fun _=>True) w l a) (hb:Below w.heap.size w w'):stsAt (fun _=>True) w' l a:=by
 have h:=stsAt_in h;exact stsAt_stays (R:=fun b=>True/\b<w.heap.size) (fun b o v hb2 hv=>by rw [<- hv];exact hb.cell (p:=⟨b,o,none⟩) hb2.2) (fun _ _=>trivial) h
theorem dcsAt_below {w w':World} {l:List Dc} {a:Option Addr} (h:dcsAt (fun _=>True) w l a) (hb:Below w.heap.size w w'):dcsAt (fun _=>True) w' l a:=by
 have h:=dcsAt_in h;exact dcsAt_stays (R:=fun b=>True/\b<w.heap.size) (fun b o v hb2 hv=>by rw [<- hv];exact hb.cell (p:=⟨b,o,none⟩) hb2.2) (fun _ _=>trivial) h
theorem thsAt_in {R:Nat->Prop} {w:World} {l:List Th} {a:Option Addr} (h:thsAt R w l a):thsAt (fun b=>R b/\b<w.heap.size) w l a:=by
 rcases h with h | ⟨g,q,rfl,A,d⟩
 · exact .inl h
 · cases l with
   | nil=>exact .inl rfl
   | cons t r =>
     refine .inr ⟨g,q,rfl,⟨A,cell_lt d.1.1⟩,?_⟩;have c:∀ (l:List Th) (q:Nat),thsIn R w l g q->thsIn (fun b=>R b/\b<w.heap.size) w l g q:=by
      intro l;induction l with
      | nil=>intro q _;exact trivial
      | cons x s ih =>
        intro q h;obtain ⟨⟨p,⟨o,v,f,i⟩,⟨j,m,n,k⟩,z⟩,y⟩:=h;exact ⟨⟨p,⟨o,v,f,dcsAt_in i⟩,⟨j,m,n,stsAt_in k⟩,z⟩,ih _ y⟩
     exact c _ _ d
theorem thsAt_below {w w':World} {l:List Th} {a:Option Addr} (h:thsAt (fun _=>True) w l a) (hb:Below w.heap.size w w'):thsAt (fun _=>True) w' l a:=by
 have h:=thsAt_in h;exact thsAt_stays (R:=fun b=>True/\b<w.heap.size) (fun b o v hb2 hv=>by rw [<- hv];exact hb.cell (p:=⟨b,o,none⟩) hb2.2) (fun _ _=>trivial) h
theorem stsIn_got {R:Nat->Prop} {w:World} {l:List St} {b off:Nat} (i:Nat) (x:St) (h:stsIn R w l b off) (hx:l[i]? = some x) :
 w.cell? ⟨b,off+i*7,none⟩=some (.int .u8 x.kind)/\w.cell? ⟨b,off+i*7+1,none⟩=some (.string x.name)/\w.cell? ⟨b,off+i*7+2,none⟩=some (.string x.other) /\
 (∃ a cap,w.cell? ⟨b,off+i*7+3,none⟩=some (.slice a x.e.length cap)/\exsAt R w x.e a)/\(∃ a cap,w.cell? ⟨b,off+i*7+4,none⟩=some (.slice a x.body.length cap)/\stsAt R w x.body a) /\
 (∃ a cap,w.cell? ⟨b,off+i*7+5,none⟩=some (.slice a x.els.length cap)/\stsAt R w x.els a)/\w.cell? ⟨b,off+i*7+6,none⟩=some (.int .i64 x.pos):=by
 have h:=stsIn_get i x h hx;cases x;exact h
def dA (w:World) (x:Dc) (v:Value):Prop:=v=.agg #[.string x.name,.int .i64 x.wd,.int .i64 x.pos]
def sA (w:World) (x:St) (v:Value):Prop:=∃ ea ec bda bdc ela elc,v=.agg #[.int .u8 x.kind,.string x.name,.string x.other,.slice ea x.e.length ec,.slice bda x.body.length bdc,.slice ela x.els.length elc,.int .i64 x.pos]/\exsAt (fun _=>True) w x.e ea/\stsAt (fun _=>True) w x.body bda/\stsAt (fun _=>True) w x.els ela
def tA (w:World) (x:Th) (v:Value):Prop:=∃ loa loc bda bdc,v=.agg #[.string x.name,.slice loa x.locals.length loc,.slice bda x.body.length bdc,.int .i64 x.pos]/\dcsAt (fun _=>True) w x.locals loa/\stsAt (fun _=>True) w x.body bda
theorem equal_d {f:Dc->Dc->Bool} {l:List Dc} (HI:∀ x∈l,∀ (y:Dc) (v u:Value) (w:World),dA w x v->dA w y u->Calls Tryz.prog 21 #[v,u] w fun e' w'=>e'=.returned (.bool (f x y))/\Below w.heap.size w w') {m:List Dc} {a b:Option Addr} {c1 c2:Nat} {w:World} (hl:l.length<=9223372036854775807) (h1:dcsAt (fun _=>True) w l a) (h2:dcsAt (fun _=>True) w m b) :
 Calls Tryz.prog 20 #[.slice a l.length c1,.slice b m.length c2,.func (.func 21) #[] #[]] w fun e w'=>e=.returned (.bool (sameBy f l m))/\Below w.heap.size w w':=by
 by_cases hne:l.length=m.length
 · obtain ⟨R, o⟩ : ∃ R, R = sameBy f l m := ⟨_, rfl⟩
   rw [<- o];have ab:=Hd o;have HI:=Hd HI;have HL:=Hd hl;have G:=Hd hne;have E1:=Hd h1;have E2:=Hd h2;rw [<- hne];obtain ⟨n,C⟩:=Qx l.length;rw [<- C];have HN:=Hd C;have ax:n<=9223372036854775807:=by omega
   clear hl hne h1 h2 o C;go_enter Tryz.func20,Tryz.ntmps20;go_wp2_with fail;go_loopg [17] (n+1) (fun m' u W=>∃ i:Nat,u=.int .i64 (i:Int)/\i<=n/\m'=n-i+1/\sameBy f (l.drop i) (m.drop i)=R/\Below w.heap.size w W)
   case atStart=>exact ⟨0,rfl,Nat.zero_le _,by omega,ab.out.symm,Below.refl _ w⟩
   case round =>
    obtain ⟨i,rfl,hi,hm,o,hb⟩:=hrel;have P:=Hd hb;have K:=Hd o;have HM:=Hd hm;clear hb o hm;by_cases hin:i<n
    · have ap := Hd hin
      have F:i<l.length:=by have:=HN.out;omega
      have O:i<m.length:=by have:=G.out;omega
      have Y:l[i]? = some l[i]:=List.getElem?_eq_getElem F;have V:m[i]? = some m[i]:=List.getElem?_eq_getElem O;have d:l[i]∈l:=List.getElem_mem F;have j:=sameBy_step (f:=f) F O;generalize l[i]=x at Y j d;generalize m[i]=y at V j;have HX:=Hd (HI.out x d);rcases E1.out with e | ⟨g,q,rfl,_,e1⟩
      · cases l with
        | nil=>simp at F
        | cons=>cases e
      rcases E2.out with e | ⟨g',q',rfl,_,e2⟩
      · cases m with
        | nil=>simp at O
        | cons=>cases e
      have x1:=dcsIn_get i x e1 Y;have y1:=dcsIn_get i y e2 V;have t:=Hd (K.out.symm.trans j);obtain ⟨T,a1,X⟩:=x1;obtain ⟨r,E,D⟩:=y1;have M:=lt_of_at T;have Q:=lt_of_at r;simp only at M Q;have p:=P.out;have T:=cb p M T;have a1:=cb p M a1;have X:=cb p M X;have H:=p.size;have BB:=Hd (And.intro r (And.intro E (D)));clear j d Y V e1 e2  r E D F O;have Z1:=Own.new wr 61 #[.string ⟨#[]⟩,.int .i64 0,.int .i64 0];have z:=Hd (Below.of_row ((Below.refl wr.heap.size wr).alloc (Nat.le_refl _) (.cells #[.string ⟨#[]⟩,.int .i64 0,.int .i64 0] 61)) (g:=wr.heap.size) (Nat.le_refl _) #[.string x.name,.int .i64 x.wd,.int .i64 x.pos]);have P1:=Hd (Z1.row #[.string x.name,.int .i64 x.wd,.int .i64 x.pos]);have I:=Hd ((size_setRow (wr.alloc (.cells #[.string ⟨#[]⟩,.int .i64 0,.int .i64 0] 61)) wr.heap.size #[.string x.name,.int .i64 x.wd,.int .i64 x.pos]).trans (World.size_alloc _ _));go_upto_region 6 with (first | (refine st rowDc rfl rfl Z1 rfl rfl (by rfl) (by rfl) (by kernel_rfl) ?_))
      obtain ⟨A,L⟩:=Qx ((wr.alloc (.cells #[.string ⟨#[]⟩,.int .i64 0,.int .i64 0] 61)).setRow wr.heap.size #[.string x.name,.int .i64 x.wd,.int .i64 x.pos]);rw [<- L] at P1 z I ⊢;clear L Z1 T a1 X;obtain ⟨r,E,D⟩:=BB.out;have p:=P.out.trans (z.out.mono H);have r:=cb p Q r;have E:=cb p Q E;have D:=cb p Q D;have Z:=Own.new A 61 #[.string ⟨#[]⟩,.int .i64 0,.int .i64 0];have K2:=Hd (Below.of_row ((Below.refl A.heap.size A).alloc (Nat.le_refl _) (.cells #[.string ⟨#[]⟩,.int .i64 0,.int .i64 0] 61)) (g:=A.heap.size) (Nat.le_refl _) #[.string y.name,.int .i64 y.wd,.int .i64 y.pos]);have P2:=Hd (Z.row #[.string y.name,.int .i64 y.wd,.int .i64 y.pos]);clear p;go_upto_region 7 with (first | (refine st rowDc rfl rfl Z rfl rfl (by rfl) (by rfl) (by kernel_rfl) ?_))
      obtain ⟨N,J⟩:=Qx ((A.alloc (.cells #[.string ⟨#[]⟩,.int .i64 0,.int .i64 0] 61)).setRow A.heap.size #[.string y.name,.int .i64 y.wd,.int .i64 y.pos]);rw [<- J] at P2 K2 ⊢;clear J Z r E D;have o1:=P1.out.below K2.out;have o2:=P2.out;have S:Hid (Below w.heap.size w N):=(P.out.trans (z.out.mono H)).trans (K2.out.mono (by have:=I.out;omega))
      have HC:Hid (Calls Tryz.prog 21 #[.agg #[.string x.name,.int .i64 x.wd,.int .i64 x.pos],.agg #[.string y.name,.int .i64 y.wd,.int .i64 y.pos]] N fun e' w'=>e'=.returned (.bool (f x y))/\Below N.heap.size N w') :=
       HX.out _ _ _ _ rfl rfl
      generalize f x y=B at t HC;cases B with
      | false =>
        go_wp2_with (first | (refine ld rowDc rfl rfl rfl o1 rfl ?_) | (refine ld rowDc rfl rfl rfl o2 rfl ?_) | (go_at_call 21;refine (HC.out).mono ?_;rintro e w3 ⟨rfl,c⟩;have s:=Hd c;clear c))
        go_ret;refine ⟨by rw [t.out];rfl,S.out.trans (s.out.mono (S.out.size))⟩
      | true =>
        go_wp2_with (first | (refine ld rowDc rfl rfl rfl o1 rfl ?_) | (refine ld rowDc rfl rfl rfl o2 rfl ?_) | (go_at_call 21;refine (HC.out).mono ?_;rintro e w3 ⟨rfl,c⟩;have s:=Hd c;clear c))
        go_roundg (n-(i+1)+1)
        case measure=>have:=HM.out;omega
        case rel=>exact ⟨i+1,rfl,by omega,by omega,by rw [t.out];simp,S.out.trans (s.out.mono (S.out.size))⟩
    · have : i = n := by omega
      subst this;have o:R=true:=by rw [<- K.out];exact sameBy_end (by have:=HN.out;omega) (by have:=G.out;have:=HN.out;omega)
      have U:=Hd o;clear o;go_wp2_with fail;go_ret;exact ⟨by rw [U.out];rfl,P.out⟩
 · rw [sameBy_ne hne]
   obtain ⟨n,C⟩:=Qx l.length;obtain ⟨k,hk⟩:=Qx m.length;rw [<- C] at hne hl ⊢;rw [<- hk] at hne ⊢;have hq:((n:Int)==(k:Int))=false:=by simp;omega
   clear h1 h2 HI C hk;go_enter Tryz.func20,Tryz.ntmps20;go_wp2_with fail;go_ret;exact ⟨rfl,Below.refl _ w⟩
theorem equal_s {f:St->St->Bool} {l:List St} (HI:∀ x∈l,∀ (y:St) (v u:Value) (w:World),sA w x v->sA w y u->Calls Tryz.prog 52 #[v,u] w fun e' w'=>e'=.returned (.bool (f x y))/\Below w.heap.size w w') {m:List St} {a b:Option Addr} {c1 c2:Nat} {w:World} (hl:l.length<=9223372036854775807) (h1:stsAt (fun _=>True) w l a) (h2:stsAt (fun _=>True) w m b) :
 Calls Tryz.prog 51 #[.slice a l.length c1,.slice b m.length c2,.func (.func 52) #[] #[]] w fun e w'=>e=.returned (.bool (sameBy f l m))/\Below w.heap.size w w':=by
 by_cases hne:l.length=m.length
 · obtain ⟨R, J⟩ : ∃ R, R = sameBy f l m := ⟨_, rfl⟩
   rw [<- J];have bi:=Hd J;have HI:=Hd HI;have HL:=Hd hl;have ag:=Hd hne;have E1:=Hd h1;have E2:=Hd h2;rw [<- hne];obtain ⟨n,Y⟩:=Qx l.length;rw [<- Y];have HN:=Hd Y;have b7:n<=9223372036854775807:=by omega
   clear hl hne h1 h2 J Y;go_enter Tryz.func51,Tryz.ntmps51;go_wp2_with fail;go_loopg [17] (n+1) (fun m' u W=>∃ i:Nat,u=.int .i64 (i:Int)/\i<=n/\m'=n-i+1/\sameBy f (l.drop i) (m.drop i)=R/\Below w.heap.size w W)
   case atStart=>exact ⟨0,rfl,Nat.zero_le _,by omega,bi.out.symm,Below.refl _ w⟩
   case round =>
    obtain ⟨i,rfl,hi,hm,J,hb⟩:=hrel;have HB:=Hd hb;have aj:=Hd J;have HM:=Hd hm;clear hb J hm;by_cases hin:i<n
    · have bv := Hd hin
      have il:i<l.length:=by have:=HN.out;omega
      have im:i<m.length:=by have:=ag.out;omega
      have g1:l[i]? = some l[i]:=List.getElem?_eq_getElem il;have g2:m[i]? = some m[i]:=List.getElem?_eq_getElem im;have F:l[i]∈l:=List.getElem_mem il;have I:=sameBy_step (f:=f) il im;generalize l[i]=x at g1 I F;generalize m[i]=y at g2 I;have HX:=Hd (HI.out x F);rcases E1.out with e | ⟨g,q,rfl,_,e1⟩
      · cases l with
        | nil=>simp at il
        | cons=>cases e
      rcases E2.out with e | ⟨g',q',rfl,_,e2⟩
      · cases m with
        | nil=>simp at im
        | cons=>cases e
      have x1:=stsIn_got i x e1 g1;have y1:=stsIn_got i y e2 g2;have T:=Hd (aj.out.symm.trans I);obtain ⟨a0,a1,a2,⟨C,A,a3,ah⟩,⟨d,c,a4,N⟩,⟨o,j,a5,M⟩,a6⟩:=x1;obtain ⟨S,X,b2,⟨D,E,b3,aq⟩,⟨z,p,Z,K⟩,⟨r,t,b5,P⟩,b6⟩:=y1;have bj:=Hd ah;have be:=Hd aq;have am:=Hd N;have al:=Hd K;have an:=Hd M;have af:=Hd P;have O:=lt_of_at a0;have L:=lt_of_at S;simp only at O L;have s:=HB.out;have a0:=cb s O a0;have a1:=cb s O a1;have a2:=cb s O a2;have a3:=cb s O a3;have a4:=cb s O a4;have a5:=cb s O a5;have a6:=cb s O a6;have ak:=s.size;have BB:=Hd (And.intro S (And.intro X (And.intro b2 (And.intro b3 (And.intro Z (And.intro b5 (b6)))))));clear I F g1 g2 e1 e2 ah aq N K M P S X b2 b3 Z b5 b6 il im;have Z1:=Own.new wr 120 #[.int .u8 0,.string ⟨#[]⟩,.string ⟨#[]⟩,.slice none 0 0,.slice none 0 0,.slice none 0 0,.int .i64 0];have U:=Hd (Below.of_row ((Below.refl wr.heap.size wr).alloc (Nat.le_refl _) (.cells #[.int .u8 0,.string ⟨#[]⟩,.string ⟨#[]⟩,.slice none 0 0,.slice none 0 0,.slice none 0 0,.int .i64 0] 120)) (g:=wr.heap.size) (Nat.le_refl _) #[.int .u8 x.kind,.string x.name,.string x.other,.slice C x.e.length A,.slice d x.body.length c,.slice o x.els.length j,.int .i64 x.pos]);have P1:=Hd (Z1.row #[.int .u8 x.kind,.string x.name,.string x.other,.slice C x.e.length A,.slice d x.body.length c,.slice o x.els.length j,.int .i64 x.pos])
      have ap:=Hd ((size_setRow (wr.alloc (.cells #[.int .u8 0,.string ⟨#[]⟩,.string ⟨#[]⟩,.slice none 0 0,.slice none 0 0,.slice none 0 0,.int .i64 0] 120)) wr.heap.size #[.int .u8 x.kind,.string x.name,.string x.other,.slice C x.e.length A,.slice d x.body.length c,.slice o x.els.length j,.int .i64 x.pos]).trans (World.size_alloc _ _));go_upto_region 6 with (first | (refine st rowSt rfl rfl Z1 rfl rfl (by rfl) (by rfl) (by kernel_rfl) ?_))
      obtain ⟨V,ao⟩:=Qx ((wr.alloc (.cells #[.int .u8 0,.string ⟨#[]⟩,.string ⟨#[]⟩,.slice none 0 0,.slice none 0 0,.slice none 0 0,.int .i64 0] 120)).setRow wr.heap.size #[.int .u8 x.kind,.string x.name,.string x.other,.slice C x.e.length A,.slice d x.body.length c,.slice o x.els.length j,.int .i64 x.pos]);rw [<- ao] at P1 U ap ⊢;clear ao Z1 a0 a1 a2 a3 a4 a5 a6;obtain ⟨S,X,b2,b3,Z,b5,b6⟩:=BB.out;have s:=HB.out.trans (U.out.mono ak);have S:=cb s L S;have X:=cb s L X;have b2:=cb s L b2;have b3:=cb s L b3;have Z:=cb s L Z;have b5:=cb s L b5;have b6:=cb s L b6;have Z2:=Own.new V 120 #[.int .u8 0,.string ⟨#[]⟩,.string ⟨#[]⟩,.slice none 0 0,.slice none 0 0,.slice none 0 0,.int .i64 0];have K2:=Hd (Below.of_row ((Below.refl V.heap.size V).alloc (Nat.le_refl _) (.cells #[.int .u8 0,.string ⟨#[]⟩,.string ⟨#[]⟩,.slice none 0 0,.slice none 0 0,.slice none 0 0,.int .i64 0] 120)) (g:=V.heap.size) (Nat.le_refl _) #[.int .u8 y.kind,.string y.name,.string y.other,.slice D y.e.length E,.slice z y.body.length p,.slice r y.els.length t,.int .i64 y.pos]);have P2:=Hd (Z2.row #[.int .u8 y.kind,.string y.name,.string y.other,.slice D y.e.length E,.slice z y.body.length p,.slice r y.els.length t,.int .i64 y.pos]);clear s;go_upto_region 7 with (first | (refine st rowSt rfl rfl Z2 rfl rfl (by rfl) (by rfl) (by kernel_rfl) ?_))
      obtain ⟨W2,ai⟩:=Qx ((V.alloc (.cells #[.int .u8 0,.string ⟨#[]⟩,.string ⟨#[]⟩,.slice none 0 0,.slice none 0 0,.slice none 0 0,.int .i64 0] 120)).setRow V.heap.size #[.int .u8 y.kind,.string y.name,.string y.other,.slice D y.e.length E,.slice z y.body.length p,.slice r y.els.length t,.int .i64 y.pos]);rw [<- ai] at P2 K2 ⊢;clear ai Z2 S X b2 b3 Z b5 b6;have o1:=P1.out.below K2.out;have o2:=P2.out;have H:Hid (Below w.heap.size w W2):=(HB.out.trans (U.out.mono ak)).trans (K2.out.mono (by have:=ap.out;omega))
      have HC:Hid (Calls Tryz.prog 52 #[.agg #[.int .u8 x.kind,.string x.name,.string x.other,.slice C x.e.length A,.slice d x.body.length c,.slice o x.els.length j,.int .i64 x.pos],.agg #[.int .u8 y.kind,.string y.name,.string y.other,.slice D y.e.length E,.slice z y.body.length p,.slice r y.els.length t,.int .i64 y.pos]] W2 fun e' w'=>e'=.returned (.bool (f x y))/\Below W2.heap.size W2 w') :=
       HX.out _ _ _ _ ⟨C,A,d,c,o,j,rfl,exsAt_below bj.out H.out,stsAt_below am.out H.out,stsAt_below an.out H.out⟩ ⟨D,E,z,p,r,t,rfl,exsAt_below be.out H.out,stsAt_below al.out H.out,stsAt_below af.out H.out⟩
      generalize f x y=B at T HC;cases B with
      | false =>
        go_wp2_with (first | (refine ld rowSt rfl rfl rfl o1 rfl ?_) | (refine ld rowSt rfl rfl rfl o2 rfl ?_) | (go_at_call 52;refine (HC.out).mono ?_;rintro e w3 ⟨rfl,G⟩;have Q:=Hd G;clear G))
        go_ret;refine ⟨by rw [T.out];rfl,H.out.trans (Q.out.mono (H.out.size))⟩
      | true =>
        go_wp2_with (first | (refine ld rowSt rfl rfl rfl o1 rfl ?_) | (refine ld rowSt rfl rfl rfl o2 rfl ?_) | (go_at_call 52;refine (HC.out).mono ?_;rintro e w3 ⟨rfl,G⟩;have Q:=Hd G;clear G))
        go_roundg (n-(i+1)+1)
        case measure=>have:=HM.out;omega
        case rel=>exact ⟨i+1,rfl,by omega,by omega,by rw [T.out];simp,H.out.trans (Q.out.mono (H.out.size))⟩
    · have : i = n := by omega
      subst this;have J:R=true:=by rw [<- aj.out];exact sameBy_end (by have:=HN.out;omega) (by have:=ag.out;have:=HN.out;omega)
      have bg:=Hd J;clear J;go_wp2_with fail;go_ret;exact ⟨by rw [bg.out];rfl,HB.out⟩
 · rw [sameBy_ne hne]
   obtain ⟨n,Y⟩:=Qx l.length;obtain ⟨k,hk⟩:=Qx m.length;rw [<- Y] at hne hl ⊢;rw [<- hk] at hne ⊢;have hq:((n:Int)==(k:Int))=false:=by simp;omega
   clear h1 h2 HI Y hk;go_enter Tryz.func51,Tryz.ntmps51;go_wp2_with fail;go_ret;exact ⟨rfl,Below.refl _ w⟩
theorem equal_t {f:Th->Th->Bool} {l:List Th} (HI:∀ x∈l,∀ (y:Th) (v u:Value) (w:World),tA w x v->tA w y u->Calls Tryz.prog 23 #[v,u] w fun e' w'=>e'=.returned (.bool (f x y))/\Below w.heap.size w w') {m:List Th} {a b:Option Addr} {c1 c2:Nat} {w:World} (hl:l.length<=9223372036854775807) (h1:thsAt (fun _=>True) w l a) (h2:thsAt (fun _=>True) w m b) :
 Calls Tryz.prog 22 #[.slice a l.length c1,.slice b m.length c2,.func (.func 23) #[] #[]] w fun e w'=>e=.returned (.bool (sameBy f l m))/\Below w.heap.size w w':=by
 by_cases hne:l.length=m.length
 · obtain ⟨R, E⟩ : ∃ R, R = sameBy f l m := ⟨_, rfl⟩
   rw [<- E];have ay:=Hd E;have HI:=Hd HI;have HL:=Hd hl;have X:=Hd hne;have E1:=Hd h1;have E2:=Hd h2;rw [<- hne];obtain ⟨n,Q⟩:=Qx l.length;rw [<- Q];have HN:=Hd Q;have bh:n<=9223372036854775807:=by omega
   clear hl hne h1 h2 E Q;go_enter Tryz.func22,Tryz.ntmps22;go_wp2_with fail;go_loopg [17] (n+1) (fun m' u W=>∃ i:Nat,u=.int .i64 (i:Int)/\i<=n/\m'=n-i+1/\sameBy f (l.drop i) (m.drop i)=R/\Below w.heap.size w W)
   case atStart=>exact ⟨0,rfl,Nat.zero_le _,by omega,ay.out.symm,Below.refl _ w⟩
   case round =>
    obtain ⟨i,rfl,hi,hm,E,hb⟩:=hrel;have HB:=Hd hb;have ab:=Hd E;have HM:=Hd hm;clear hb E hm;by_cases hin:i<n
    · have bd := Hd hin
      have V:i<l.length:=by have:=HN.out;omega
      have im:i<m.length:=by have:=X.out;omega
      have g1:l[i]? = some l[i]:=List.getElem?_eq_getElem V;have g2:m[i]? = some m[i]:=List.getElem?_eq_getElem im;have z:l[i]∈l:=List.getElem_mem V;have D:=sameBy_step (f:=f) V im;generalize l[i]=x at g1 D z;generalize m[i]=y at g2 D;have HX:=Hd (HI.out x z);rcases E1.out with e | ⟨g,q,rfl,_,e1⟩
      · cases l with
        | nil=>simp at V
        | cons=>cases e
      rcases E2.out with e | ⟨g',q',rfl,_,e2⟩
      · cases m with
        | nil=>simp at im
        | cons=>cases e
      have x1:=thsIn_get i x e1 g1;have y1:=thsIn_get i y e2 g2;have M:=Hd (ab.out.symm.trans D);obtain ⟨a0,⟨d,j,a1,H⟩,⟨o,c,a2,I⟩,a3⟩:=x1;obtain ⟨L,⟨s,r,P,J⟩,⟨t,p,S,F⟩,T⟩:=y1;have U:=Hd H;have Y:=Hd J;have ae:=Hd I;have ad:=Hd F;have la:=lt_of_at a0;have Z:=lt_of_at L;simp only at la Z;have A:=HB.out;have a0:=cb A la a0;have a1:=cb A la a1;have a2:=cb A la a2;have a3:=cb A la a3;have ac:=A.size;have BB:=Hd (And.intro L (And.intro P (And.intro S (T))));clear D z g1 g2 e1 e2 H J I F L P S T V im;have Z1:=Own.new wr 66 #[.string ⟨#[]⟩,.slice none 0 0,.slice none 0 0,.int .i64 0];have N:=Hd (Below.of_row ((Below.refl wr.heap.size wr).alloc (Nat.le_refl _) (.cells #[.string ⟨#[]⟩,.slice none 0 0,.slice none 0 0,.int .i64 0] 66)) (g:=wr.heap.size) (Nat.le_refl _) #[.string x.name,.slice d x.locals.length j,.slice o x.body.length c,.int .i64 x.pos]);have P1:=Hd (Z1.row #[.string x.name,.slice d x.locals.length j,.slice o x.body.length c,.int .i64 x.pos]);have ah:=Hd ((size_setRow (wr.alloc (.cells #[.string ⟨#[]⟩,.slice none 0 0,.slice none 0 0,.int .i64 0] 66)) wr.heap.size #[.string x.name,.slice d x.locals.length j,.slice o x.body.length c,.int .i64 x.pos]).trans (World.size_alloc _ _));go_upto_region 6 with (first | (refine st rowTh rfl rfl Z1 rfl rfl (by rfl) (by rfl) (by kernel_rfl) ?_))
      obtain ⟨O,af⟩:=Qx ((wr.alloc (.cells #[.string ⟨#[]⟩,.slice none 0 0,.slice none 0 0,.int .i64 0] 66)).setRow wr.heap.size #[.string x.name,.slice d x.locals.length j,.slice o x.body.length c,.int .i64 x.pos]);rw [<- af] at P1 N ah ⊢;clear af Z1 a0 a1 a2 a3;obtain ⟨L,P,S,T⟩:=BB.out;have A:=HB.out.trans (N.out.mono ac);have L:=cb A Z L;have P:=cb A Z P;have S:=cb A Z S;have T:=cb A Z T;have Z2:=Own.new O 66 #[.string ⟨#[]⟩,.slice none 0 0,.slice none 0 0,.int .i64 0];have K2:=Hd (Below.of_row ((Below.refl O.heap.size O).alloc (Nat.le_refl _) (.cells #[.string ⟨#[]⟩,.slice none 0 0,.slice none 0 0,.int .i64 0] 66)) (g:=O.heap.size) (Nat.le_refl _) #[.string y.name,.slice s y.locals.length r,.slice t y.body.length p,.int .i64 y.pos]);have P2:=Hd (Z2.row #[.string y.name,.slice s y.locals.length r,.slice t y.body.length p,.int .i64 y.pos]);clear A;go_upto_region 7 with (first | (refine st rowTh rfl rfl Z2 rfl rfl (by rfl) (by rfl) (by kernel_rfl) ?_))
      obtain ⟨W2,aa⟩:=Qx ((O.alloc (.cells #[.string ⟨#[]⟩,.slice none 0 0,.slice none 0 0,.int .i64 0] 66)).setRow O.heap.size #[.string y.name,.slice s y.locals.length r,.slice t y.body.length p,.int .i64 y.pos]);rw [<- aa] at P2 K2 ⊢;clear aa Z2 L P S T;have o1:=P1.out.below K2.out;have o2:=P2.out;have G:Hid (Below w.heap.size w W2):=(HB.out.trans (N.out.mono ac)).trans (K2.out.mono (by have:=ah.out;omega))
      have HC:Hid (Calls Tryz.prog 23 #[.agg #[.string x.name,.slice d x.locals.length j,.slice o x.body.length c,.int .i64 x.pos],.agg #[.string y.name,.slice s y.locals.length r,.slice t y.body.length p,.int .i64 y.pos]] W2 fun e' w'=>e'=.returned (.bool (f x y))/\Below W2.heap.size W2 w') :=
       HX.out _ _ _ _ ⟨d,j,o,c,rfl,dcsAt_below U.out G.out,stsAt_below ae.out G.out⟩ ⟨s,r,t,p,rfl,dcsAt_below Y.out G.out,stsAt_below ad.out G.out⟩
      generalize f x y=B at M HC;cases B with
      | false =>
        go_wp2_with (first | (refine ld rowTh rfl rfl rfl o1 rfl ?_) | (refine ld rowTh rfl rfl rfl o2 rfl ?_) | (go_at_call 23;refine (HC.out).mono ?_;rintro e w3 ⟨rfl,C⟩;have K:=Hd C;clear C))
        go_ret;refine ⟨by rw [M.out];rfl,G.out.trans (K.out.mono (G.out.size))⟩
      | true =>
        go_wp2_with (first | (refine ld rowTh rfl rfl rfl o1 rfl ?_) | (refine ld rowTh rfl rfl rfl o2 rfl ?_) | (go_at_call 23;refine (HC.out).mono ?_;rintro e w3 ⟨rfl,C⟩;have K:=Hd C;clear C))
        go_roundg (n-(i+1)+1)
        case measure=>have:=HM.out;omega
        case rel=>exact ⟨i+1,rfl,by omega,by omega,by rw [M.out];simp,G.out.trans (K.out.mono (G.out.size))⟩
    · have : i = n := by omega
      subst this;have E:R=true:=by rw [<- ab.out];exact sameBy_end (by have:=HN.out;omega) (by have:=X.out;have:=HN.out;omega)
      have aw:=Hd E;clear E;go_wp2_with fail;go_ret;exact ⟨by rw [aw.out];rfl,HB.out⟩
 · rw [sameBy_ne hne]
   obtain ⟨n,Q⟩:=Qx l.length;obtain ⟨k,hk⟩:=Qx m.length;rw [<- Q] at hne hl ⊢;rw [<- hk] at hne ⊢;have hq:((n:Int)==(k:Int))=false:=by simp;omega
   clear h1 h2 HI Q hk;go_enter Tryz.func22,Tryz.ntmps22;go_wp2_with fail;go_ret;exact ⟨rfl,Below.refl _ w⟩
end Go.Proofs.YtbgfkdiihnidaaaGreatDoor

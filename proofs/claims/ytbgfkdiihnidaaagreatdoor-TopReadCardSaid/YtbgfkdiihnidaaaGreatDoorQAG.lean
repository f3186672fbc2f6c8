import Derived.Test.YtbgfkdiihnidaaaGreatDoorQAF
import Derived.Deep.LoopGhost
set_option maxRecDepth 100000
set_option maxHeartbeats 20000000
namespace Go.Proofs.YtbgfkdiihnidaaaGreatDoor
open Go.RowKit
set_option linter.unusedVariables false
theorem wd_bd {c:Par} {w:World} {k:Nat} (R:Rd c w k):0<=(c.nx k).wd/\(c.nx k).wd<=9223372036854775807:=by
 by_cases hk:k<c.toks.length
 · have : c.nx k = (c.toks[k]).tk := by unfold Par.nx; rw [Par.at_lt hk]
   rw [this];exact R.s.small.2.2 _ (List.getElem_mem hk)
 · have : c.nx k = ⟨0, ⟨#[]⟩, 0, c.L⟩ := by unfold Par.nx; rw [Par.at_end (by omega)]
   rw [this];exact ⟨Int.le_refl _,by show (0:Int)<=9223372036854775807;decide⟩
def firstP.go (L:Int) (d:Dc) (b:Bool) (ts:List Tk):PR Dc:=(numP L ts).then fun v r=>.ok ⟨d.name,if b then -v else v,d.pos⟩ r
theorem p_first {c:Par} {w:World} {k:Nat} (R:Rd c w k):Calls Tryz.prog 141 #[c.ptr] w (RdPost c w (firstP c.L (c.at k)) (fun d v _=>v=dcVal d)):=by
 have HK:Hid (∀ W,Rd c W k->Calls Tryz.prog 102 #[c.ptr] W (RdPost c W (nameP c.L (c.at k)) (fun d v _=>v=dcVal d))):=fun W RW=>p_name RW
 have HP:Hid (∀ W j (s:ByteArray),Rd c W j->s.data.toList≠[]->Calls Tryz.prog 40 #[c.ptr,.string s] W fun e w'=>e=.returned (.bool (isT s.data.toList (c.at j)))/\Fr c W w'/\Rd c w' (if isT s.data.toList (c.at j)=true then j+1 else j)):=fun W j s RW hs=>p_pass RW s hs
 have HT:Hid (∀ W j,Rd c W j->(c.nx j).kind=3->Calls Tryz.prog 144 #[c.ptr,.int .u8 3] W fun e w'=>e=.returned (tkV (c.nx j))/\Fr c W w'/\Rd c w' (j+1)):=fun W j RW h=>p_kind_ok RW 3 h (nx_lt (.inl (by rw [h];decide)))
 have HU:Hid (∀ W j,Rd c W j->¬ (c.nx j).kind=3->Calls Tryz.prog 144 #[c.ptr,.int .u8 3] W fun e w'=>e=.panicked (flt (hdP c.L (c.at j)) 2)/\Fr c W w'):=fun W j RW h=>p_kind_bad RW 3 h
 obtain ⟨Y,hY⟩:=Qx (nameP c.L (c.at k));unfold firstP;rw [<- hY] at HK ⊢;have A0:=Hd ((At.start R).alloc (.cells zDc 61));have O0:=Own.new w 61 zDc;have F:=Hd R;have D:=Hd R.lt;clear hY R;unfold Par.ptr zDc dcVal tkV at *;go_enter Tryz.func141,Tryz.ntmps141;go_wp2_with fail;go_at_call 102;refine (HK.out _ (A0.out.rd F.out)).mono ?_;rintro e a ⟨z,hm⟩;rcases Y with ⟨d0,r0⟩ | ⟨p,q⟩
 rotate_left
 · obtain rfl := hm
   have U:=Hd (A0.out.fr.trans z);clear z;go_wp2_with fail;exact ⟨rfl,U.out,rfl⟩
 obtain ⟨v1,E,rfl,rfl,aa,rfl⟩:=hm;obtain ⟨o,P,y⟩:=d0;have n:=D.out;have U:=Hd ((A0.out.call z aa).alloc (.cells #[.string o,.int .i64 P,.int .i64 y] 61));have O1:=Hd ((O0.fr z (by omega)).alloc (.cells #[.string o,.int .i64 P,.int .i64 y] 61))
 have N1:=Hd (Own.new a 61 #[.string o,.int .i64 P,.int .i64 y]);have l:=Hd (O0.fr z (by omega)).lt
 clear z aa n O0;go_wp2_with fail;by_cases h1:isT [61] (c.at E)=true;rotate_left
 · go_at_call 40
   refine (HP.out _ E ⟨#[61]⟩ (U.out.rd F.out) (by decide)).mono ?_
   have S:isT [61] (c.at E)=false:=by simpa using h1
   rintro e w2 ⟨N,f,g⟩;rw [show (⟨#[61]⟩:ByteArray).data.toList=[61] from rfl,S] at N g
   rw [if_neg (by simp)] at g
   subst N;have n:=D.out;have i:=l.out;have A2:=Hd (U.out.call f g);have O2:=O1.out.fr f (by omega)
   have N2:=N1.out.fr f (by omega)
   have H1:=Hd S;clear f g n i h1 S;go_wp2_with (first | (refine ld rowDc rfl rfl rfl N2 rfl ?_) | (refine st rowDc rfl rfl O2 rfl rfl (by rfl) (by rfl) (by kernel_rfl) ?_))
   have n:=D.out;have M:=A2.out.setRow (Nat.le_refl _) (by omega) #[.string o,.int .i64 P,.int .i64 y]
   refine p_ret rowDc rfl (O2.row #[.string o,.int .i64 P,.int .i64 y]) rfl rfl rfl ?_;simp only [PR.then_ok,H1.out];exact ⟨M.fr,_,E,rfl,rfl,M.rd F.out,rfl⟩
 go_at_call 40;refine (HP.out _ E ⟨#[61]⟩ (U.out.rd F.out) (by decide)).mono ?_
 rintro e w2 ⟨N,f,g⟩;rw [show (⟨#[61]⟩:ByteArray).data.toList=[61] from rfl,h1] at N g
 rw [if_pos rfl] at g;subst N;have n:=D.out;have i:=l.out;have A2:=Hd (U.out.call f g);have O2:=Hd (O1.out.fr f (by omega))
 have N2:=Hd (N1.out.fr f (by omega))
 have H1:=Hd h1;clear f g n i h1;go_wp2_with fail;obtain ⟨b,hb⟩:=Qx (isT [45] (c.at (E+1)));obtain ⟨H,Q⟩:=Qx (if b=true then E+1+1 else E+1);have H3:Hid (RdPost c w (firstP.go c.L ⟨o,P,y⟩ b (c.at H)) (fun d v _=>v=.agg #[.string d.name,.int .i64 d.wd,.int .i64 d.pos])=RdPost c w (((PR.ok (⟨o,P,y⟩:Dc) (c.at E)).then fun d r=>if isT [61] r=true then if isT [45] r.tail=true then (numP c.L r.tail.tail).then fun v r=>.ok ⟨d.name,-v,d.pos⟩ r else (numP c.L r.tail).then fun v r=>.ok ⟨d.name,v,d.pos⟩ r else .ok d r)) (fun d v _=>v=.agg #[.string d.name,.int .i64 d.wd,.int .i64 d.pos])):=by
  rw [Hid];congr 1;simp only [PR.then_ok,H1.out,if_true,Par.at_tail,<- hb,Q];cases b <;> rfl
 have HB:=Hd (And.intro hb Q);clear hb Q;go_at_call 40;refine (HP.out _ (E+1) ⟨#[45]⟩ (A2.out.rd F.out) (by decide)).mono ?_
 rintro e w3 ⟨N,G,I⟩;rw [show (⟨#[45]⟩:ByteArray).data.toList=[45] from rfl,<- HB.out.1] at N I
 rw [<- HB.out.2] at I;subst N;have n:=D.out;have i:=l.out;have M:=Hd (A2.out.call G I);have O3:=Hd (O2.out.fr G (by omega))
 have N3:=Hd (N2.out.fr G (by omega))
 clear G I n i;go_wp2_with fail;by_cases hkd:(c.nx H).kind=3;rotate_left
 · go_at_call 144
   refine (HU.out _ H (M.out.rd F.out) hkd).mono ?_;rintro e K ⟨rfl,m⟩;have O:=Hd (M.out.fr.trans m);have J:=Hd hkd;clear m hkd;go_wp2_with fail;refine ⟨rfl,?_⟩;rw [<- H3.out];unfold firstP.go;rw [numP_at,if_neg J.out];exact ⟨O.out,rfl⟩
 have T:=wd_bd (M.out.rd F.out);have ab:=Hd (HT.out _ H (M.out.rd F.out) hkd);obtain ⟨t,ht⟩:=Qx (c.nx H);have ad:=Hd ht;rw [<- ht] at ab T;have J:=Hd hkd;clear ht hkd;obtain ⟨tk,tx,x,tp⟩:=t;simp only at T;obtain ⟨a8,a4⟩:=T;go_at_call 144;refine (ab.out).mono ?_;rintro e K ⟨rfl,m,ac⟩;have n:=D.out;have i:=l.out;have O:=Hd (M.out.call m ac);have O4:=O3.out.fr m (by omega)
 have B:=N3.out.fr m (by omega)
 have n0:K.cell? ⟨a.heap.size,0,none⟩=some (.string o):=cr B;have n1:K.cell? ⟨a.heap.size,1,none⟩=some (.int .i64 P):=cr B;have n2:K.frozen? ⟨a.heap.size,1,none⟩=false:=by simp only [World.frozen?];unfold Own at B;rw [B];rfl
 have F2:=tok_f2;clear m ac n i;cases b with
 | false =>
   go_upto_region 8 with (fail)
   obtain ⟨W,C⟩:=Qx (K.setCell ⟨a.heap.size,1,none⟩ (.int .i64 x));rw [<- C];have A:a.heap.size≠w.heap.size:=by have:=l.out;omega
   have N5:Own W a.heap.size 61 #[.string o,.int .i64 x,.int .i64 y]:=by rw [C];exact heap_setCell_same K a.heap.size 1 _ _ (.int .i64 x) B
   have Z:Own W w.heap.size 61 #[.string ⟨#[]⟩,.int .i64 0,.int .i64 0]:=by rw [C];exact O4.setX 1 _ A
   have A5:Hid (At c w W (H+1)):=by
    rw [C];have n:=D.out;have i:=l.out;exact ⟨Keep.setCell O.out.fr (p:=⟨a.heap.size,1,none⟩) _ B (fun hs=>by have:=hs.1;simp at this;omega),(Below.heap_setCell _ _ _ _ (show c.X≠a.heap.size by omega)).trans O.out.pos,O.out.le⟩
   clear n0 n1 n2 C A O4 B;go_wp2_with (first | (refine ld rowDc rfl rfl rfl N5 rfl ?_) | (refine st rowDc rfl rfl Z rfl rfl (by rfl) (by rfl) (by kernel_rfl) ?_))
   have n:=D.out;have V:=A5.out.setRow (Nat.le_refl _) (by omega) #[.string o,.int .i64 x,.int .i64 y]
   refine p_ret rowDc rfl (Z.row #[.string o,.int .i64 x,.int .i64 y]) rfl rfl rfl ?_;rw [<- H3.out];unfold firstP.go;rw [numP_at,if_pos J.out,<- ad.out];exact ⟨V.fr,_,H+1,rfl,rfl,V.rd F.out,rfl⟩
 | true =>
   go_upto_region 8 with (fail)
   obtain ⟨W,C⟩:=Qx ((K.setCell ⟨a.heap.size,1,none⟩ (.int .i64 x)).setCell ⟨a.heap.size,1,none⟩ (.int .i64 (-x)));rw [<- C];have A:a.heap.size≠w.heap.size:=by have:=l.out;omega
   have N5:Own W a.heap.size 61 #[.string o,.int .i64 (-x),.int .i64 y]:=by rw [C];exact heap_setCell_same _ a.heap.size 1 _ _ (.int .i64 (-x)) (heap_setCell_same K a.heap.size 1 _ _ (.int .i64 x) B)
   have Z:Own W w.heap.size 61 #[.string ⟨#[]⟩,.int .i64 0,.int .i64 0]:=by rw [C];exact (O4.setX 1 _ A).setX 1 _ A
   have A5:Hid (At c w W (H+1)):=by
    rw [C];have n:=D.out;have i:=l.out;have ah:=heap_setCell_same K a.heap.size 1 _ _ (.int .i64 x) B;refine ⟨Keep.setCell (Keep.setCell O.out.fr (p:=⟨a.heap.size,1,none⟩) _ B (fun hs=>by have:=hs.1;simp at this;omega)) (p:=⟨a.heap.size,1,none⟩) _ ah (fun hs=>by have:=hs.1;simp at this;omega),?_,O.out.le⟩
    exact (Below.heap_setCell _ _ _ _ (show c.X≠a.heap.size by omega)).trans ((Below.heap_setCell _ _ _ _ (show c.X≠a.heap.size by omega)).trans O.out.pos)
   clear n0 n1 n2 C A O4 B;go_wp2_with (first | (refine ld rowDc rfl rfl rfl N5 rfl ?_) | (refine st rowDc rfl rfl Z rfl rfl (by rfl) (by rfl) (by kernel_rfl) ?_))
   have n:=D.out;have V:=A5.out.setRow (Nat.le_refl _) (by omega) #[.string o,.int .i64 (-x),.int .i64 y]
   refine p_ret rowDc rfl (Z.row #[.string o,.int .i64 (-x),.int .i64 y]) rfl rfl rfl ?_;rw [<- H3.out];unfold firstP.go;rw [numP_at,if_pos J.out,<- ad.out];exact ⟨V.fr,_,H+1,rfl,rfl,V.rd F.out,rfl⟩
theorem infoDc:(Tryz.prog.info? 61).map (fun i=>(i.zero,i.size,i.bytes))=some (some (.agg zDc),3,32):=by kernel_rfl
def listR (L:Int) (one:List Tk->PR Dc) (m:Nat) (l:List Dc) (ts:List Tk):PR (List Dc):=if isT [44] ts then listP L one m l ts.tail else (need L [59] ts).then fun _ r=>.ok l r
theorem need_at {c:Par} {k:Nat} (s:Bs):need c.L s (c.at k)=if isT s (c.at k)=true then .ok () (c.at (k+1)) else .bad (hdP c.L (c.at k)) 2:=by
 unfold need;rw [Par.at_tail]
theorem cells_three {W:World} {g:Nat} {a b d:Value} {t:TypeId} (h:Own W g t #[a,b,d]) (j:Nat) (u:Value) (hj:[a,b,d][j]? = some u):W.cell? ((⟨g,0,none⟩:Addr).add j)=some u:=by
 have e:(⟨g,0,none⟩:Addr).add j=⟨g,j,none⟩:=by by_cases h0:j=0 <;> simp [Addr.add,h0]
 rw [e,cell_of_row W g j _ _ _ h,<- hj];have:j<3:=(List.getElem?_eq_some_iff.1 hj).1;have c:j=0\/j=1\/j=2:=by omega
 rcases c with rfl | rfl | rfl <;> rfl
def LstI (c:Par) (w:World) (one:List Tk->PR Dc) (Y:PR (List Dc)) (m:Nat) (v:Value) (W:World):Prop :=
 ∃ (j:Nat) (l:List Dc),At c w W j/\W.ownsRow w.heap.size 61 3 v l.length (dcsL l)/\l≠[]/\listR c.L one m l (c.at j)=Y/\(c.at j).length<=m/\l.length+(c.at j).length<=65536
theorem p_list_name {c:Par} {w:World} {k n:Nat} (R:Rd c w k) (hn:(c.at k).length<n):Calls Tryz.prog 104 #[c.ptr,.func (.func 102) #[c.ptr] #[]] w
 (RdPost c w (listP c.L (nameP c.L) n [] (c.at k)) (fun l v w'=>w'.ownsRow w.heap.size 61 3 v l.length (dcsL l)/\l≠[])):=by
 have HK:Hid (∀ W j,Rd c W j->Calls Tryz.prog 102 #[c.ptr] W (RdPost c W (nameP c.L (c.at j)) (fun d v _=>v=dcVal d))):=fun W j RW=>p_name RW
 have HP:Hid (∀ W j (s:ByteArray),Rd c W j->s.data.toList≠[]->Calls Tryz.prog 40 #[c.ptr,.string s] W fun e w'=>e=.returned (.bool (isT s.data.toList (c.at j)))/\Fr c W w'/\Rd c w' (if isT s.data.toList (c.at j)=true then j+1 else j)):=fun W j s RW hs=>p_pass RW s hs
 have Q:Hid (∀ ts d r,nameP c.L ts=.ok d r->r.length<ts.length):=fun ts d r h=>nameP_short h
 obtain ⟨b,M⟩:=Qx (nameP c.L);rw [<- M] at HK Q ⊢;obtain ⟨n,rfl⟩:∃ n',n=n'+1:=⟨n-1,by omega⟩
 obtain ⟨Y0,H⟩:=Qx (b (c.at k));have ak:(c.at k).length<=65536:=by rw [Par.at_len];have:=R.s.small.1;omega
 have aj:Hid (∀ W,Rd c W k->Calls Tryz.prog 102 #[c.ptr] W (RdPost c W Y0 (fun d v _=>v=dcVal d))):=fun W RW=>by rw [H];exact HK.out W k RW
 simp only [listP];rw [<- H];have ac:Hid (∀ d r,Y0=.ok d r->r.length<(c.at k).length):=fun d r h=>Q.out _ _ _ (H.symm.trans h)
 have A0:=Hd (At.start R);have P:=Hd R;have hX:=Hd R.lt;have HN:=Hd (And.intro hn ak);clear H R M hn ak;unfold Par.ptr dcVal at *;go_enter Tryz.func104,Tryz.ntmps104;go_wp2_with fail;go_at_call 102;refine (aj.out _ P.out).mono ?_;rintro e w1 ⟨C,hm⟩;rcases Y0 with ⟨F,r0⟩ | ⟨p,q⟩
 rotate_left
 · obtain rfl := hm
   have A1:=Hd (A0.out.fr.trans C);clear C;go_wp2_with fail;exact ⟨rfl,A1.out,rfl⟩
 obtain ⟨v1,V,rfl,rfl,ae,rfl⟩:=hm;have am:=ac.out _ _ rfl;have B0:Hid (LstI c w b (listR c.L b n ([]++[F]) (c.at V)) n (.slice (some ⟨w1.heap.size,0,none⟩) 1 1) (w1.alloc (.cells #[.string F.name,.int .i64 F.wd,.int .i64 F.pos] 61))):=by
  have hz:=Keep.size C;refine ⟨V,[F],(A0.out.call C ae).alloc _,⟨rfl,.inr ⟨w1.heap.size,1,_,rfl,hz,Own.new w1 _ _,Nat.le_refl _,by decide,rfl,rfl⟩⟩,by simp,rfl,by have:=HN.out.1;omega,by have:=HN.out.2;simp;omega⟩
 obtain ⟨Y,hY⟩:=Qx (listR c.L b n ([]++[F]) (c.at V));rw [<- hY] at B0;have U:=Hd hY.symm;clear C ae am hY ac aj;go_wp2_with fail;go_loopg [5] n (fun m u W=>LstI c w b Y m u W)
 case atStart=>exact B0.out
 case round =>
  obtain ⟨j,l,A1,z,ap,hL,ad,an⟩:=hrel;have E:=Hd A1;have K:=Hd z;have a0:=Hd ap;have HL:=Hd hL;have I:=Hd (And.intro ad an);obtain ⟨oa,bh,rfl,ai⟩:=row_shape z;have bk:=Hd ai;clear A1 z ap hL ad an ai;by_cases h1:isT [44] (c.at j)=true
  · have ag := Par.isT_lt h1
    have y:(c.at j).length=(c.at (j+1)).length+1:=by rw [at_nx ag];rfl
    have S:=Hd y;obtain ⟨m,rfl⟩:∃ m,gk=m+1:=⟨gk-1,by have:=I.out.1;omega⟩
    have i:Y=(b (c.at (j+1))).then fun d r=>listR c.L b m (l++[d]) r:=by
     rw [<- HL.out];unfold listR;rw [if_pos h1,Par.at_tail];rfl
    obtain ⟨Z,hZ⟩:=Qx (b (c.at (j+1)));rw [<- hZ] at i;have D:=Hd i;have a5:Hid (∀ W,Rd c W (j+1)->Calls Tryz.prog 102 #[.pointer (some ⟨c.X,0,none⟩)] W (RdPost c W Z (fun d v _=>v=.agg #[.string d.name,.int .i64 d.wd,.int .i64 d.pos]))):=fun W RW=>by rw [hZ];exact HK.out W (j+1) RW
    have ay:Hid (∀ d r,Z=.ok d r->r.length<(c.at (j+1)).length):=fun d r h=>Q.out _ _ _ (hZ.symm.trans h)
    have H1:=Hd h1;clear h1 ag y i hZ;go_wp2_with fail;go_at_call 40;refine (HP.out _ j ⟨#[44]⟩ (E.out.rd P.out) (by decide)).mono ?_
    rintro e w2 ⟨he,g,f⟩;rw [show (⟨#[44]⟩:ByteArray).data.toList=[44] from rfl,H1.out] at he f
    rw [if_pos rfl] at f;subst he;have G:=Hd (E.out.call g f);have x:=Hd (row_fr K.out g hX.out);clear g f;go_wp2_with fail;go_at_call 102;refine (a5.out _ (G.out.rd P.out)).mono ?_;rintro e w3 ⟨a,al⟩;rcases Z with ⟨t,r2⟩ | ⟨p,q⟩
    rotate_left
    · obtain rfl := al
      have J:=Hd (G.out.fr.trans a);clear a;go_wp2_with fail;refine ⟨rfl,?_⟩;show RdPost c w (listR c.L b n ([]++[F]) (c.at V)) _ _ _;rw [U.out,D.out];exact ⟨J.out,rfl⟩
    obtain ⟨v3,k3,rfl,rfl,o,rfl⟩:=al;have J:=Hd ((G.out.call a o).alloc (.cells #[.string t.name,.int .i64 t.wd,.int .i64 t.pos] 61));have row3:=(row_fr x.out a hX.out).alloc (.cells #[.string t.name,.int .i64 t.wd,.int .i64 t.pos] 61);have bm:w.heap.size<=w3.heap.size:=Keep.size (G.out.call a o).fr;have bl:l.length<=65535:=by have:=I.out.2;have:=S.out;omega
    obtain ⟨i0,hi,aw,a2,ax⟩:=info_parts infoDc;have ab:=Hd (ay.out _ _ rfl);have N3:=Own.new w3 61 #[.string t.name,.int .i64 t.wd,.int .i64 t.pos];clear a o;go_wp2_with (at_builtin;refine wpList_append_own _ rfl _ _ 23 rfl w.heap.size 61 i0 _ 3 32 Tryz.underlying23 hi aw a2 ax rfl (by decide) _ _ _ rfl row3 ⟨w3.heap.size,0,none⟩ 1 1 [.string t.name,.int .i64 t.wd,.int .i64 t.pos] rfl rfl (fun j u hj=>cells_three N3 j u hj) (by simp [Value.oneCell']) (by simp only [maxLen];omega) (by omega) (by simp;omega) ?_;intro v' w4 B A _;have ao:=Hd B;have GR:=Hd A;clear B A)
    go_roundg m
    case measure=>omega
    case rel =>
     have hx:=hX.out;refine ⟨k3,l++[t],grown_fr J.out GR.out (fun r hr=>?_),?_,by simp,D.out.symm,by have:=I.out.1;have:=ab.out;have:=S.out;omega,by have:=I.out.2;have:=ab.out;have:=S.out;simp;omega⟩
     · have T := (row3.lt r hr).1
       exact ⟨T,by omega⟩
     · have := ao.out
       rw [dcsL_snoc,List.length_append];exact this
  · have O : isT [44] (c.at j) = false := by simpa using h1
    have i:Y=(need c.L [59] (c.at j)).then fun _ r=>.ok l r:=by rw [<- HL.out];unfold listR;rw [O];rfl
    have D:=Hd i;have H1:=Hd O;clear h1 O i;go_wp2_with fail;go_at_call 40;refine (HP.out _ j ⟨#[44]⟩ (E.out.rd P.out) (by decide)).mono ?_
    rintro e w2 ⟨he,g,f⟩;rw [show (⟨#[44]⟩:ByteArray).data.toList=[44] from rfl,H1.out] at he f
    rw [if_neg (by simp)] at f
    subst he;have G:=Hd (E.out.call g f);have x:=Hd (row_fr K.out g hX.out);clear g f;go_wp2_with fail;by_cases T:isT [59] (c.at j)=true
    · go_at_call 146
      refine (p_take_ok (G.out.rd P.out) ⟨#[59]⟩ (by decide) T).mono ?_
      rintro e w3 ⟨rfl,a,o⟩;have J:=Hd (G.out.call a o);have aa:=Hd (row_fr x.out a hX.out);have H2:=Hd T;clear a o T;go_wp2_with fail;go_ret;show RdPost c w (listR c.L b n ([]++[F]) (c.at V)) _ _ _;rw [U.out,D.out,need_at,if_pos H2.out];exact ⟨J.out.fr,_,j+1,rfl,⟨aa.out,a0.out⟩,J.out.rd P.out,rfl⟩
    · have N : isT [59] (c.at j) = false := by simpa using T
      go_at_call 146;refine (p_take_bad (G.out.rd P.out) ⟨#[59]⟩ (by decide) N).mono ?_
      rintro e w3 ⟨rfl,a⟩;have J:=Hd (G.out.fr.trans a);have H2:=Hd N;clear a T N;go_wp2_with fail;refine ⟨rfl,?_⟩;show RdPost c w (listR c.L b n ([]++[F]) (c.at V)) _ _ _;rw [U.out,D.out,need_at,H2.out];exact ⟨J.out,rfl⟩
theorem p_list_first {c:Par} {w:World} {k n:Nat} (R:Rd c w k) (hn:(c.at k).length<n):Calls Tryz.prog 104 #[c.ptr,.func (.func 141) #[c.ptr] #[]] w
 (RdPost c w (listP c.L (firstP c.L) n [] (c.at k)) (fun l v w'=>w'.ownsRow w.heap.size 61 3 v l.length (dcsL l)/\l≠[])):=by
 have HK:Hid (∀ W j,Rd c W j->Calls Tryz.prog 141 #[c.ptr] W (RdPost c W (firstP c.L (c.at j)) (fun d v _=>v=dcVal d))):=fun W j RW=>p_first RW
 have HP:Hid (∀ W j (s:ByteArray),Rd c W j->s.data.toList≠[]->Calls Tryz.prog 40 #[c.ptr,.string s] W fun e w'=>e=.returned (.bool (isT s.data.toList (c.at j)))/\Fr c W w'/\Rd c w' (if isT s.data.toList (c.at j)=true then j+1 else j)):=fun W j s RW hs=>p_pass RW s hs
 have Q:Hid (∀ ts d r,firstP c.L ts=.ok d r->r.length<ts.length):=fun ts d r h=>firstP_short h
 obtain ⟨b,M⟩:=Qx (firstP c.L);rw [<- M] at HK Q ⊢;obtain ⟨n,rfl⟩:∃ n',n=n'+1:=⟨n-1,by omega⟩
 obtain ⟨Y0,H⟩:=Qx (b (c.at k));have ak:(c.at k).length<=65536:=by rw [Par.at_len];have:=R.s.small.1;omega
 have aj:Hid (∀ W,Rd c W k->Calls Tryz.prog 141 #[c.ptr] W (RdPost c W Y0 (fun d v _=>v=dcVal d))):=fun W RW=>by rw [H];exact HK.out W k RW
 simp only [listP];rw [<- H];have ac:Hid (∀ d r,Y0=.ok d r->r.length<(c.at k).length):=fun d r h=>Q.out _ _ _ (H.symm.trans h)
 have A0:=Hd (At.start R);have P:=Hd R;have hX:=Hd R.lt;have HN:=Hd (And.intro hn ak);clear H R M hn ak;unfold Par.ptr dcVal at *;go_enter Tryz.func104,Tryz.ntmps104;go_wp2_with fail;go_at_call 141;refine (aj.out _ P.out).mono ?_;rintro e w1 ⟨C,hm⟩;rcases Y0 with ⟨F,r0⟩ | ⟨p,q⟩
 rotate_left
 · obtain rfl := hm
   have A1:=Hd (A0.out.fr.trans C);clear C;go_wp2_with fail;exact ⟨rfl,A1.out,rfl⟩
 obtain ⟨v1,V,rfl,rfl,ae,rfl⟩:=hm;have am:=ac.out _ _ rfl;have B0:Hid (LstI c w b (listR c.L b n ([]++[F]) (c.at V)) n (.slice (some ⟨w1.heap.size,0,none⟩) 1 1) (w1.alloc (.cells #[.string F.name,.int .i64 F.wd,.int .i64 F.pos] 61))):=by
  have hz:=Keep.size C;refine ⟨V,[F],(A0.out.call C ae).alloc _,⟨rfl,.inr ⟨w1.heap.size,1,_,rfl,hz,Own.new w1 _ _,Nat.le_refl _,by decide,rfl,rfl⟩⟩,by simp,rfl,by have:=HN.out.1;omega,by have:=HN.out.2;simp;omega⟩
 obtain ⟨Y,hY⟩:=Qx (listR c.L b n ([]++[F]) (c.at V));rw [<- hY] at B0;have U:=Hd hY.symm;clear C ae am hY ac aj;go_wp2_with fail;go_loopg [5] n (fun m u W=>LstI c w b Y m u W)
 case atStart=>exact B0.out
 case round =>
  obtain ⟨j,l,A1,z,ap,hL,ad,an⟩:=hrel;have E:=Hd A1;have K:=Hd z;have a0:=Hd ap;have HL:=Hd hL;have I:=Hd (And.intro ad an);obtain ⟨oa,bh,rfl,ai⟩:=row_shape z;have bk:=Hd ai;clear A1 z ap hL ad an ai;by_cases h1:isT [44] (c.at j)=true
  · have ag := Par.isT_lt h1
    have y:(c.at j).length=(c.at (j+1)).length+1:=by rw [at_nx ag];rfl
    have S:=Hd y;obtain ⟨m,rfl⟩:∃ m,gk=m+1:=⟨gk-1,by have:=I.out.1;omega⟩
    have i:Y=(b (c.at (j+1))).then fun d r=>listR c.L b m (l++[d]) r:=by
     rw [<- HL.out];unfold listR;rw [if_pos h1,Par.at_tail];rfl
    obtain ⟨Z,hZ⟩:=Qx (b (c.at (j+1)));rw [<- hZ] at i;have D:=Hd i;have a5:Hid (∀ W,Rd c W (j+1)->Calls Tryz.prog 141 #[.pointer (some ⟨c.X,0,none⟩)] W (RdPost c W Z (fun d v _=>v=.agg #[.string d.name,.int .i64 d.wd,.int .i64 d.pos]))):=fun W RW=>by rw [hZ];exact HK.out W (j+1) RW
    have ay:Hid (∀ d r,Z=.ok d r->r.length<(c.at (j+1)).length):=fun d r h=>Q.out _ _ _ (hZ.symm.trans h)
    have H1:=Hd h1;clear h1 ag y i hZ;go_wp2_with fail;go_at_call 40;refine (HP.out _ j ⟨#[44]⟩ (E.out.rd P.out) (by decide)).mono ?_
    rintro e w2 ⟨he,g,f⟩;rw [show (⟨#[44]⟩:ByteArray).data.toList=[44] from rfl,H1.out] at he f
    rw [if_pos rfl] at f;subst he;have G:=Hd (E.out.call g f);have x:=Hd (row_fr K.out g hX.out);clear g f;go_wp2_with fail;go_at_call 141;refine (a5.out _ (G.out.rd P.out)).mono ?_;rintro e w3 ⟨a,al⟩;rcases Z with ⟨t,r2⟩ | ⟨p,q⟩
    rotate_left
    · obtain rfl := al
      have J:=Hd (G.out.fr.trans a);clear a;go_wp2_with fail;refine ⟨rfl,?_⟩;show RdPost c w (listR c.L b n ([]++[F]) (c.at V)) _ _ _;rw [U.out,D.out];exact ⟨J.out,rfl⟩
    obtain ⟨v3,k3,rfl,rfl,o,rfl⟩:=al;have J:=Hd ((G.out.call a o).alloc (.cells #[.string t.name,.int .i64 t.wd,.int .i64 t.pos] 61));have row3:=(row_fr x.out a hX.out).alloc (.cells #[.string t.name,.int .i64 t.wd,.int .i64 t.pos] 61);have bm:w.heap.size<=w3.heap.size:=Keep.size (G.out.call a o).fr;have bl:l.length<=65535:=by have:=I.out.2;have:=S.out;omega
    obtain ⟨i0,hi,aw,a2,ax⟩:=info_parts infoDc;have ab:=Hd (ay.out _ _ rfl);have N3:=Own.new w3 61 #[.string t.name,.int .i64 t.wd,.int .i64 t.pos];clear a o;go_wp2_with (at_builtin;refine wpList_append_own _ rfl _ _ 23 rfl w.heap.size 61 i0 _ 3 32 Tryz.underlying23 hi aw a2 ax rfl (by decide) _ _ _ rfl row3 ⟨w3.heap.size,0,none⟩ 1 1 [.string t.name,.int .i64 t.wd,.int .i64 t.pos] rfl rfl (fun j u hj=>cells_three N3 j u hj) (by simp [Value.oneCell']) (by simp only [maxLen];omega) (by omega) (by simp;omega) ?_;intro v' w4 B A _;have ao:=Hd B;have GR:=Hd A;clear B A)
    go_roundg m
    case measure=>omega
    case rel =>
     have hx:=hX.out;refine ⟨k3,l++[t],grown_fr J.out GR.out (fun r hr=>?_),?_,by simp,D.out.symm,by have:=I.out.1;have:=ab.out;have:=S.out;omega,by have:=I.out.2;have:=ab.out;have:=S.out;simp;omega⟩
     · have T := (row3.lt r hr).1
       exact ⟨T,by omega⟩
     · have := ao.out
       rw [dcsL_snoc,List.length_append];exact this
  · have O : isT [44] (c.at j) = false := by simpa using h1
    have i:Y=(need c.L [59] (c.at j)).then fun _ r=>.ok l r:=by rw [<- HL.out];unfold listR;rw [O];rfl
    have D:=Hd i;have H1:=Hd O;clear h1 O i;go_wp2_with fail;go_at_call 40;refine (HP.out _ j ⟨#[44]⟩ (E.out.rd P.out) (by decide)).mono ?_
    rintro e w2 ⟨he,g,f⟩;rw [show (⟨#[44]⟩:ByteArray).data.toList=[44] from rfl,H1.out] at he f
    rw [if_neg (by simp)] at f
    subst he;have G:=Hd (E.out.call g f);have x:=Hd (row_fr K.out g hX.out);clear g f;go_wp2_with fail;by_cases T:isT [59] (c.at j)=true
    · go_at_call 146
      refine (p_take_ok (G.out.rd P.out) ⟨#[59]⟩ (by decide) T).mono ?_
      rintro e w3 ⟨rfl,a,o⟩;have J:=Hd (G.out.call a o);have aa:=Hd (row_fr x.out a hX.out);have H2:=Hd T;clear a o T;go_wp2_with fail;go_ret;show RdPost c w (listR c.L b n ([]++[F]) (c.at V)) _ _ _;rw [U.out,D.out,need_at,if_pos H2.out];exact ⟨J.out.fr,_,j+1,rfl,⟨aa.out,a0.out⟩,J.out.rd P.out,rfl⟩
    · have N : isT [59] (c.at j) = false := by simpa using T
      go_at_call 146;refine (p_take_bad (G.out.rd P.out) ⟨#[59]⟩ (by decide) N).mono ?_
      rintro e w3 ⟨rfl,a⟩;have J:=Hd (G.out.fr.trans a);have H2:=Hd N;clear a T N;go_wp2_with fail;refine ⟨rfl,?_⟩;show RdPost c w (listR c.L b n ([]++[F]) (c.at V)) _ _ _;rw [U.out,D.out,need_at,H2.out];exact ⟨J.out,rfl⟩
theorem setCell_row {W:World} {g:Nat} {t:TypeId} {cs:Array Value} (h:Own W g t cs) (j:Nat) (v:Value):W.setCell ⟨g,j,none⟩ v=W.setRow g (cs.setIfInBounds j v):=by
 have a:(W.setCell ⟨g,j,none⟩ v).heap=(W.setRow g (cs.setIfInBounds j v)).heap:=by
  apply Array.ext_getElem?;intro i;by_cases hi:i=g
  · subst hi
    rw [heap_setCell_same W i j _ _ v h,setRow_heap W i _ _ _ _ h]
  · rw [Below.heap_setCell W ⟨g,j,none⟩ v i hi,setRow_other _ hi]
 exact congrArg (fun h=>({ W with heap:=h } : World)) a
def stR (n:Nat) (p:Int) (s:St) (v:Value) (W:World):Prop :=
 ∃ a3 c3 a4 c4 a5 c5,v=.agg #[.int .u8 s.kind,.string s.name,.string s.other,.slice a3 s.e.length c3,.slice a4 s.body.length c4,.slice a5 s.els.length c5,.int .i64 p]/\exsAt (fun b=>n<=b) W s.e a3/\stsAt (fun b=>n<=b) W s.body a4/\stsAt (fun b=>n<=b) W s.els a5
def exsVal (n:Nat) (l:List Ex) (v:Value) (W:World):Prop:=∃ a cap,v=.slice a l.length cap/\exsAt (fun b=>n<=b) W l a
def stsVal (n:Nat) (l:List St) (v:Value) (W:World):Prop:=∃ a cap,v=.slice a l.length cap/\stsAt (fun b=>n<=b) W l a
theorem stsAt_mono {R R':Nat->Prop} {w:World} {l:List St} {a:Option Addr} (h:stsAt R w l a) (hm:∀ b,R b->R' b):stsAt R' w l a:=stsAt_stays (Stays.refl R w) hm h
structure StG (c:Par) (w:World) (t:Tk) (cs:Array Value) (W:World) (j:Nat):Prop where
 run:At c w W j
 tok:Own W w.heap.size 50 #[.int .u8 t.kind,.string t.text,.int .i64 t.wd,.int .i64 t.pos]
 res:Own W (w.heap.size+1) 120 zSt
 st:Own W (w.heap.size+1+1) 120 cs
section
variable {c:Par} {w W W':World} {t:Tk} {cs:Array Value} {j k2:Nat}
theorem StG.start {k:Nat} (R:Rd c w k) (t:Tk) (cs:Array Value):StG c w t cs (((w.alloc (.cells #[.int .u8 t.kind,.string t.text,.int .i64 t.wd,.int .i64 t.pos] 50)).alloc (.cells zSt 120)).alloc (.cells cs 120)) k:=by
 have b:=Own.new (w.alloc (.cells #[.int .u8 t.kind,.string t.text,.int .i64 t.wd,.int .i64 t.pos] 50)) 120 zSt;have a:=Own.new ((w.alloc (.cells #[.int .u8 t.kind,.string t.text,.int .i64 t.wd,.int .i64 t.pos] 50)).alloc (.cells zSt 120)) 120 cs;rw [World.size_alloc] at b a;rw [World.size_alloc] at a;exact ⟨(((At.start R).alloc _).alloc _).alloc _,((Own.new w _ _).alloc _).alloc _,b.alloc _,a⟩
theorem StG.call (h:StG c w t cs W j) (hf:Fr c W W') (hp:Rd c W' k2) (hX:c.X<w.heap.size):StG c w t cs W' k2 :=
 ⟨h.run.call hf hp,h.tok.fr hf (by omega),h.res.fr hf (by omega),h.st.fr hf (by omega)⟩
theorem StG.row (h:StG c w t cs W j) (ds:Array Value) (hX:c.X<w.heap.size):StG c w t ds (W.setRow (w.heap.size+1+1) ds) j :=
 ⟨h.run.setRow (by omega) (by omega) ds,h.tok.other ds (by omega),h.res.other ds (by omega),h.st.row ds⟩
theorem StG.cell (h:StG c w t cs W j) {i:Nat} {v:Value} (hv:cs[i]? = some v):W.cell? ⟨w.heap.size+1+1,i,none⟩=some v:=by rw [cell_of_row W _ i _ _ _ h.st];exact hv
theorem StG.frozen (h:StG c w t cs W j) (i:Nat):W.frozen? ⟨w.heap.size+1+1,i,none⟩=false:=by
 have:=h.st;unfold Own at this;simp only [World.frozen?,this];rfl
end
theorem exsAt_call {c:Par} {W W':World} {n:Nat} {l:List Ex} {a:Option Addr} (h:exsAt (fun b=>n<=b) W l a) (hf:Fr c W W') (hX:c.X<n):exsAt (fun b=>n<=b) W' l a:=exsAt_stays (stays_fr hf (fun b hb=>by omega)) (fun b hb=>hb) h
theorem stsAt_call {c:Par} {W W':World} {n:Nat} {l:List St} {a:Option Addr} (h:stsAt (fun b=>n<=b) W l a) (hf:Fr c W W') (hX:c.X<n):stsAt (fun b=>n<=b) W' l a:=stsAt_stays (stays_fr hf (fun b hb=>by omega)) (fun b hb=>hb) h
theorem exsAt_row {W:World} {n g:Nat} {l:List Ex} {a:Option Addr} (h:exsAt (fun b=>n<=b) W l a) (cs:Array Value) (hg:g<n):exsAt (fun b=>n<=b) (W.setRow g cs) l a:=exsAt_stays (stays_row W cs (fun b hb=>by omega)) (fun b hb=>hb) h
theorem stsAt_row {W:World} {n g:Nat} {l:List St} {a:Option Addr} (h:stsAt (fun b=>n<=b) W l a) (cs:Array Value) (hg:g<n):stsAt (fun b=>n<=b) (W.setRow g cs) l a:=stsAt_stays (stays_row W cs (fun b hb=>by omega)) (fun b hb=>hb) h
theorem p_value {c:Par} {w:World} {k n:Nat} (R:Rd c w k) (hn:3*(c.at k).length+2<=n) :
 Calls Tryz.prog 145 #[c.ptr] w (RdPost c w (binE fnd c.L n 1 0 (c.at k)) (fun e v w'=>exsVal w.heap.size [e] v w')):=by
 have x:Hid (∀ W,Rd c W k->Calls Tryz.prog 175 #[c.ptr] W (RdPost c W (binE fnd c.L n 1 0 (c.at k)) (exR W.heap.size))):=fun W RW=>p_expression RW hn
 obtain ⟨Y,t⟩:=Qx (binE fnd c.L n 1 0 (c.at k));rw [<- t] at x ⊢;have m:=Hd R;clear t R hn;unfold Par.ptr at *;go_enter Tryz.func145,Tryz.ntmps145;go_wp2_with fail;go_at_call 175;refine (x.out _ m.out).mono ?_;rintro e j ⟨f,r⟩;rcases Y with ⟨a,D⟩ | ⟨p,q⟩
 rotate_left
 · obtain rfl := r
   have l:=Hd f;clear f;go_wp2_with fail;exact ⟨rfl,l.out,rfl⟩
 obtain ⟨E,z,rfl,⟨g,d,rfl,s⟩,i,rfl⟩:=r;have l:=Hd (((At.start m.out).call f i).alloc (.cells #[.int .u8 a.kind,.int .u8 a.op,.int .i64 a.wd,.string a.name,.slice g a.kids.length d,.int .i64 a.pos] 167));have C:=Hd (Own.new j 167 #[.int .u8 a.kind,.int .u8 a.op,.int .i64 a.wd,.string a.name,.slice g a.kids.length d,.int .i64 a.pos]);have A:=Hd (exsAt_stays (stays_alloc _ j (.cells #[.int .u8 a.kind,.int .u8 a.op,.int .i64 a.wd,.string a.name,.slice g a.kids.length d,.int .i64 a.pos] 167)) (fun b hb=>hb) s)
 have y:=Hd (Keep.size f);clear f s i;go_wp2_with fail;go_ret;refine ⟨l.out.fr,_,z,rfl,⟨_,_,rfl,.inr ⟨j.heap.size,0,rfl,y.out,exIn_of (vs:=exCells a g d) ⟨g,d,rfl,A.out⟩ ?_,trivial⟩⟩,l.out.rd m.out,rfl⟩;intro q u o;have B:q<6:=(List.getElem?_eq_some_iff.1 o).1;rw [cell_of_row _ j.heap.size (0+q) _ _ _ C.out,<- o];have:q=0\/q=1\/q=2\/q=3\/q=4\/q=5:=by omega
 rcases this with rfl | rfl | rfl | rfl | rfl | rfl <;> rfl
theorem p_open {c:Par} {w:World} {k:Nat} (R:Rd c w k) (d:Int):Calls Tryz.prog 103 #[c.ptr,.int .i64 d] w (RdPost c w (openP c.L d (c.at k)) (fun _ v _=>v=.tuple #[])):=by
 have o:Hid (∀ W,Rd c W k->Calls Tryz.prog 39 #[c.ptr] W fun e w'=>e=.returned (tkV (c.nx k))/\Below W.heap.size W w'):=fun W h=>p_next h
 have r:=c.nx_pos k;obtain ⟨t,x⟩:=Qx (c.nx k);rw [<- x] at o r;have E:=Hd r;have g:=Hd R;have B:=Hd R.lt;have z:=Hd (fun w=>p_refuse t 3 w)
 unfold openP;rw [need_at];obtain ⟨tk,tx,p,m⟩:=t;clear x r R;unfold tkV Par.ptr at *;by_cases h1:isT [123] (c.at k)=true
 · rw [if_pos h1]
   simp only [PR.then_ok];have n:=Hd h1;by_cases hd:64<d
   · rw [if_pos hd]
     clear h1;go_enter Tryz.func103,Tryz.ntmps103;go_wp2_with fail;go_at_call 39;refine (o.out _ g.out).mono ?_;rintro e q ⟨rfl,b⟩;have i:=Hd (((At.start g.out).below b).alloc (.cells #[.int .u8 tk,.string tx,.int .i64 p,.int .i64 m] 50));have F:=Hd (Own.new q 50 #[.int .u8 tk,.string tx,.int .i64 p,.int .i64 m]);have A:=Hd b.size;clear b;go_wp2_with fail;go_at_call 146;refine (p_take_ok (i.out.rd g.out) ⟨#[123]⟩ (by decide) n.out).mono ?_
     rintro e s ⟨rfl,a,f⟩;have j:=Hd (i.out.call a f);have y:=F.out.fr a (by have:=B.out;have:=A.out;omega)
     clear a f;go_wp2_with (first | (refine ld rowTok rfl rfl rfl y rfl ?_) | (go_at_call 101;refine (z.out _).mono ?_;rintro e G ⟨rfl,b⟩;have C:=Hd b;clear b))
     refine ⟨rfl,j.out.fr.trans (.of_below C.out),?_⟩;rw [<- E.out]
   · rw [if_neg hd]
     have D:d<=64:=by omega
     clear h1 hd;go_enter Tryz.func103,Tryz.ntmps103;go_wp2_with fail;go_at_call 39;refine (o.out _ g.out).mono ?_;rintro e q ⟨rfl,b⟩;have i:=Hd (((At.start g.out).below b).alloc (.cells #[.int .u8 tk,.string tx,.int .i64 p,.int .i64 m] 50));clear b;go_wp2_with fail;go_at_call 146;refine (p_take_ok (i.out.rd g.out) ⟨#[123]⟩ (by decide) n.out).mono ?_
     rintro e s ⟨rfl,a,f⟩;have j:=Hd (i.out.call a f);clear a f;go_wp2_with fail;go_end0;exact ⟨j.out.fr,_,k+1,rfl,rfl,j.out.rd g.out,rfl⟩
 · have l : isT [123] (c.at k) = false := by simpa using h1
   rw [if_neg h1];simp only [PR.then_bad];have n:=Hd l;clear h1 l;go_enter Tryz.func103,Tryz.ntmps103;go_wp2_with fail;go_at_call 39;refine (o.out _ g.out).mono ?_;rintro e q ⟨rfl,b⟩;have i:=Hd (((At.start g.out).below b).alloc (.cells #[.int .u8 tk,.string tx,.int .i64 p,.int .i64 m] 50));clear b;go_wp2_with fail;go_at_call 146;refine (p_take_bad (i.out.rd g.out) ⟨#[123]⟩ (by decide) n.out).mono ?_
   rintro e s ⟨rfl,a⟩;have j:=Hd (i.out.fr.trans a);clear a;go_wp2_with fail;exact ⟨rfl,j.out,rfl⟩
end Go.Proofs.YtbgfkdiihnidaaaGreatDoor

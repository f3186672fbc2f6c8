import Derived.Test.YtbgfkdiihnidaaaGreatDoorQAX
import Derived.Test.YtbgfkdiihnidaaaGreatDoorQAJ
import Derived.Deep.RegionHeld3
import Derived.Deep.RegionWith
import Derived.Deep.DeepCutAuto
import Derived.Test.YtbgfkdiihnidaaaGreatDoorQAV
set_option maxRecDepth 100000
set_option maxHeartbeats 20000000
namespace Go.Proofs.YtbgfkdiihnidaaaGreatDoor
open Go.RowKit
set_option linter.unusedVariables false
theorem cp_D (x:Dc):CpD x:=by
 intro t w;obtain ⟨a,wd,b⟩:=x;have s:nmOk a:=t;have n:Hid (∀ W,Calls Tryz.prog 63 #[.string a] W fun e w'=>e=.returned (.string a)/\Below W.heap.size W w'):=fun W=>p_clone a s W
 change Calls _ _ #[.agg #[.string a,.int .i64 wd,.int .i64 b]] w _;clear s;have O1:=Hd ((Own.new w 61 #[.string a,.int .i64 wd,.int .i64 b]).alloc (.cells zDc 61));have l:Hid (Own ((w.alloc (.cells #[.string a,.int .i64 wd,.int .i64 b] 61)).alloc (.cells zDc 61)) (w.heap.size+1) 61 zDc):=by have:=Own.new (w.alloc (.cells #[.string a,.int .i64 wd,.int .i64 b] 61)) 61 zDc;rw [World.size_alloc] at this;exact this
 have i:Hid (Below w.heap.size w ((w.alloc (.cells #[.string a,.int .i64 wd,.int .i64 b] 61)).alloc (.cells zDc 61))):=((Below.refl _ w).alloc (Nat.le_refl _) _).alloc (by rw [World.size_alloc];omega) _
 unfold zDc at l i O1;go_enter Tryz.func126,Tryz.ntmps126;go_wp2_with fail;go_at_call 63;refine (n.out _).mono ?_;rintro e j ⟨rfl,c⟩;replace O1:=Hd (O1.out.below c);replace l:=Hd (l.out.below c);replace i:=Hd (i.out.trans (c.mono i.out.size));clear c;have B:j.cell? ⟨w.heap.size,0,none⟩=some (.string a):=cr O1.out;have u0:j.cell? ⟨w.heap.size,0,none⟩=some (.string a):=cr O1.out;have A:j.frozen? ⟨w.heap.size,0,none⟩=false:=own_frozen O1.out 0;obtain ⟨q,d⟩:=Qx (j.setRow w.heap.size #[.string a,.int .i64 wd,.int .i64 b]);have v:j.setCell ⟨w.heap.size,0,none⟩ (.string a)=q:=by rw [d,setCell_row O1.out 0 _];rfl
 have m:=O1.out.lt;have r:=Hd (O1.out.row #[.string a,.int .i64 wd,.int .i64 b]);have p:=Hd (l.out.other (g:=w.heap.size) #[.string a,.int .i64 wd,.int .i64 b] (by omega))
 have f:=Hd (Below.of_row i.out (Nat.le_refl _) #[.string a,.int .i64 wd,.int .i64 b]);have y:Hid (q.heap.size=j.heap.size):=by rw [Hid,d,size_setRow]
 rw [<- d] at r p f;clear O1 l i d m;have k:=p.out;have o:=r.out;go_wp2_with (first | (refine ld rowDc rfl rfl rfl o rfl ?_) | (refine st rowDc rfl rfl k rfl rfl (by rfl) (by rfl) (by kernel_rfl) ?_))
 refine p_ret rowDc rfl (k.row #[.string a,.int .i64 wd,.int .i64 b]) rfl rfl rfl ?_;have z:=f.out.size;refine ⟨rfl,Below.of_row f.out (Nat.le_succ _) #[.string a,.int .i64 wd,.int .i64 b]⟩
theorem cp_E (x:Ex) (HK:CpEs x.kids):CpE x:=by
 intro S a c w P;obtain ⟨k,o,wd,b,F,j⟩:=x;obtain ⟨R,O,Q⟩:=S;have K:Hid (∀ W,Calls Tryz.prog 63 #[.string b] W fun e w'=>e=.returned (.string b)/\Below W.heap.size W w'):=fun W=>p_clone b R W
 have G:Hid (∀ W,Below w.heap.size w W->Calls Tryz.prog 200 #[.slice a F.length c,.func (.func 201) #[] #[]] W fun e w'=>∃ l m,e=.returned (.slice l F.length m)/\exsAt (Rf W.heap.size w') w' F l/\Below W.heap.size W w'):=fun W hW=>HK Q O a c W (exsAt_below P hW)
 change Calls _ _ #[.agg #[.int .u8 k,.int .u8 o,.int .i64 wd,.string b,.slice a F.length c,.int .i64 j]] w _;clear P R O Q HK;obtain ⟨f,v⟩:=Qx F.length;rw [<- v] at G ⊢;have D:=Hd v;clear v;have O1:=Hd ((Own.new w 167 #[.int .u8 k,.int .u8 o,.int .i64 wd,.string b,.slice a f c,.int .i64 j]).alloc (.cells zEx 167));have s:Hid (Own ((w.alloc (.cells #[.int .u8 k,.int .u8 o,.int .i64 wd,.string b,.slice a f c,.int .i64 j] 167)).alloc (.cells zEx 167)) (w.heap.size+1) 167 zEx):=by have:=Own.new (w.alloc (.cells #[.int .u8 k,.int .u8 o,.int .i64 wd,.string b,.slice a f c,.int .i64 j] 167)) 167 zEx;rw [World.size_alloc] at this;exact this
 have p:Hid (Below w.heap.size w ((w.alloc (.cells #[.int .u8 k,.int .u8 o,.int .i64 wd,.string b,.slice a f c,.int .i64 j] 167)).alloc (.cells zEx 167))):=((Below.refl _ w).alloc (Nat.le_refl _) _).alloc (by rw [World.size_alloc];omega) _
 unfold zEx at s p O1;go_enter Tryz.func201,Tryz.ntmps201;go_wp2_with fail;go_at_call 63;refine (K.out _).mono ?_;rintro e z ⟨rfl,d⟩;replace O1:=Hd (O1.out.below d);replace s:=Hd (s.out.below d);replace p:=Hd (p.out.trans (d.mono p.out.size));clear d;have x3:z.cell? ⟨w.heap.size,3,none⟩=some (.string b):=cr O1.out;have u3:z.cell? ⟨w.heap.size,3,none⟩=some (.string b):=cr O1.out;have X:z.frozen? ⟨w.heap.size,3,none⟩=false:=own_frozen O1.out 3;obtain ⟨H,n⟩:=Qx (z.setRow w.heap.size #[.int .u8 k,.int .u8 o,.int .i64 wd,.string b,.slice a f c,.int .i64 j]);have T:z.setCell ⟨w.heap.size,3,none⟩ (.string b)=H:=by rw [n,setCell_row O1.out 3 _];rfl
 have I:=O1.out.lt;have y:=Hd (O1.out.row #[.int .u8 k,.int .u8 o,.int .i64 wd,.string b,.slice a f c,.int .i64 j]);have t:=Hd (s.out.other (g:=w.heap.size) #[.int .u8 k,.int .u8 o,.int .i64 wd,.string b,.slice a f c,.int .i64 j] (by omega))
 have i:=Hd (Below.of_row p.out (Nat.le_refl _) #[.int .u8 k,.int .u8 o,.int .i64 wd,.string b,.slice a f c,.int .i64 j]);have E:Hid (H.heap.size=z.heap.size):=by rw [Hid,n,size_setRow]
 rw [<- n] at y t i;clear O1 s p n I;have Z:H.cell? ⟨w.heap.size,4,none⟩=some (.slice a f c):=cr y.out;go_wp2_with fail;go_at_call 200;refine (G.out _ i.out).mono ?_;rintro e A ⟨l,m,rfl,B,d⟩;have L:Hid (w.heap.size+1<H.heap.size):=t.out.lt;have O1:=Hd (y.out.below d);have s:=Hd (t.out.below d);have p:=Hd (i.out.trans (d.mono i.out.size));have r:=Hd (exsAt_rfw (B':=w.heap.size+2) B (by have:=L.out;omega))
 clear d B y t i E;have u4:A.cell? ⟨w.heap.size,4,none⟩=some (.slice a f c):=cr O1.out;have Y:A.frozen? ⟨w.heap.size,4,none⟩=false:=own_frozen O1.out 4;obtain ⟨J,q⟩:=Qx (A.setRow w.heap.size #[.int .u8 k,.int .u8 o,.int .i64 wd,.string b,.slice l f m,.int .i64 j]);have U:A.setCell ⟨w.heap.size,4,none⟩ (.slice l f m)=J:=by rw [q,setCell_row O1.out 4 _];rfl
 have M:=O1.out.lt;have y:=Hd (O1.out.row #[.int .u8 k,.int .u8 o,.int .i64 wd,.string b,.slice l f m,.int .i64 j]);have t:=Hd (s.out.other (g:=w.heap.size) #[.int .u8 k,.int .u8 o,.int .i64 wd,.string b,.slice l f m,.int .i64 j] (by omega))
 have i:=Hd (Below.of_row p.out (Nat.le_refl _) #[.int .u8 k,.int .u8 o,.int .i64 wd,.string b,.slice l f m,.int .i64 j]);have E:Hid (J.heap.size=A.heap.size):=by rw [Hid,q,size_setRow]
 replace r:=Hd (exsAt_rf r.out (chg_setRow (g:=w.heap.size) A #[.int .u8 k,.int .u8 o,.int .i64 wd,.string b,.slice l f m,.int .i64 j] (by omega)) (Nat.le_refl _))
 rw [<- q] at y t i r;clear O1 s p q M;have C:=t.out;have N:=y.out;go_wp2_with (first | (refine ld rowEx rfl rfl rfl N rfl ?_) | (refine st rowEx rfl rfl C rfl rfl (by rfl) (by rfl) (by kernel_rfl) ?_))
 refine p_ret rowEx rfl (C.row #[.int .u8 k,.int .u8 o,.int .i64 wd,.string b,.slice l f m,.int .i64 j]) rfl rfl rfl ?_;have V:=i.out.size;refine ⟨l,m,by rw [D.out];rfl,?_,Below.of_row i.out (Nat.le_succ _) #[.int .u8 k,.int .u8 o,.int .i64 wd,.string b,.slice l f m,.int .i64 j]⟩
 · exact exsAt_rf r.out (chg_setRow (g:=w.heap.size+1) J #[.int .u8 k,.int .u8 o,.int .i64 wd,.string b,.slice l f m,.int .i64 j] (by omega)) (by omega)
theorem cp_T (x:Th) (HL:CpDs x.locals) (HS:CpSs x.body):CpT x:=by
 intro hf q r o p w h1 h2;obtain ⟨f,P,Q,m⟩:=x;obtain ⟨f1,⟨f2,f3⟩,f4,f5⟩:=hf;have Y:Hid (∀ W,Calls Tryz.prog 63 #[.string f] W fun e w'=>e=.returned (.string f)/\Below W.heap.size W w'):=fun W=>p_clone f f1 W
 have R:Hid (∀ W,Below w.heap.size w W->Calls Tryz.prog 125 #[.slice q P.length r,.func (.func 126) #[] #[]] W fun e w'=>∃ a' c',e=.returned (.slice a' P.length c')/\dcsAt (Rf W.heap.size w') w' P a'/\Below W.heap.size W w'):=fun W hW=>HL f3 f2 q r W (dcsAt_below h1 hW)
 have L:Hid (∀ W,Below w.heap.size w W->Calls Tryz.prog 163 #[.slice o Q.length p,.func (.func 164) #[] #[]] W fun e w'=>∃ a' c',e=.returned (.slice a' Q.length c')/\stsAt (Rf W.heap.size w') w' Q a'/\Below W.heap.size W w'):=fun W hW=>HS f5 f4 o p W (stsAt_below h2 hW)
 change Calls _ _ #[.agg #[.string f,.slice q P.length r,.slice o Q.length p,.int .i64 m]] w _;clear h1 h2 f1 f2 f3 f4 f5 HL HS;obtain ⟨i,H⟩:=Qx P.length;rw [<- H] at R ⊢;have N:=Hd H;clear H;obtain ⟨j,G⟩:=Qx Q.length;rw [<- G] at L ⊢;have O:=Hd G;clear G;have O1:=Hd ((Own.new w 66 #[.string f,.slice q i r,.slice o j p,.int .i64 m]).alloc (.cells zTh 66));have y:Hid (Own ((w.alloc (.cells #[.string f,.slice q i r,.slice o j p,.int .i64 m] 66)).alloc (.cells zTh 66)) (w.heap.size+1) 66 zTh):=by have:=Own.new (w.alloc (.cells #[.string f,.slice q i r,.slice o j p,.int .i64 m] 66)) 66 zTh;rw [World.size_alloc] at this;exact this
 have t:Hid (Below w.heap.size w ((w.alloc (.cells #[.string f,.slice q i r,.slice o j p,.int .i64 m] 66)).alloc (.cells zTh 66))):=((Below.refl _ w).alloc (Nat.le_refl _) _).alloc (by rw [World.size_alloc];omega) _
 unfold zTh at y t O1;go_enter Tryz.func128,Tryz.ntmps128;go_wp2_with fail;go_at_call 63;refine (Y.out _).mono ?_;rintro e I ⟨rfl,c⟩;replace O1:=Hd (O1.out.below c);replace y:=Hd (y.out.below c);replace t:=Hd (t.out.trans (c.mono t.out.size));clear c;have x0:I.cell? ⟨w.heap.size,0,none⟩=some (.string f):=cr O1.out;have u0:I.cell? ⟨w.heap.size,0,none⟩=some (.string f):=cr O1.out;have z0:I.frozen? ⟨w.heap.size,0,none⟩=false:=own_frozen O1.out 0;obtain ⟨V,A⟩:=Qx (I.setRow w.heap.size #[.string f,.slice q i r,.slice o j p,.int .i64 m]);have ak:I.setCell ⟨w.heap.size,0,none⟩ (.string f)=V:=by rw [A,setCell_row O1.out 0 _];rfl
 have X:=O1.out.lt;have v:=Hd (O1.out.row #[.string f,.slice q i r,.slice o j p,.int .i64 m]);have s:=Hd (y.out.other (g:=w.heap.size) #[.string f,.slice q i r,.slice o j p,.int .i64 m] (by omega))
 have d:=Hd (Below.of_row t.out (Nat.le_refl _) #[.string f,.slice q i r,.slice o j p,.int .i64 m]);have C:Hid (V.heap.size=I.heap.size):=by rw [Hid,A,size_setRow]
 rw [<- A] at v s d;clear O1 y t A X;have y1:V.cell? ⟨w.heap.size,1,none⟩=some (.slice q i r):=cr v.out;go_wp2_with fail;go_at_call 125;refine (R.out _ d.out).mono ?_;rintro e J ⟨b,a,rfl,K,c⟩;have F:Hid (w.heap.size+1<V.heap.size):=s.out.lt;have O1:=Hd (v.out.below c);have y:=Hd (s.out.below c);have t:=Hd (d.out.trans (c.mono d.out.size));have n:=Hd (dcsAt_rfw (B':=w.heap.size+2) K (by have:=F.out;omega))
 clear c K v s d C;have u1:J.cell? ⟨w.heap.size,1,none⟩=some (.slice q i r):=cr O1.out;have z1:J.frozen? ⟨w.heap.size,1,none⟩=false:=own_frozen O1.out 1;obtain ⟨T,D⟩:=Qx (J.setRow w.heap.size #[.string f,.slice b i a,.slice o j p,.int .i64 m]);have am:J.setCell ⟨w.heap.size,1,none⟩ (.slice b i a)=T:=by rw [D,setCell_row O1.out 1 _];rfl
 have Z:=O1.out.lt;have v:=Hd (O1.out.row #[.string f,.slice b i a,.slice o j p,.int .i64 m]);have s:=Hd (y.out.other (g:=w.heap.size) #[.string f,.slice b i a,.slice o j p,.int .i64 m] (by omega))
 have d:=Hd (Below.of_row t.out (Nat.le_refl _) #[.string f,.slice b i a,.slice o j p,.int .i64 m]);have C:Hid (T.heap.size=J.heap.size):=by rw [Hid,D,size_setRow]
 replace n:=Hd (dcsAt_rf n.out (chg_setRow (g:=w.heap.size) J #[.string f,.slice b i a,.slice o j p,.int .i64 m] (by omega)) (Nat.le_refl _))
 rw [<- D] at v s d n;clear O1 y t D Z;have y2:T.cell? ⟨w.heap.size,2,none⟩=some (.slice o j p):=cr v.out;go_wp2_with fail;go_at_call 163;refine (L.out _ d.out).mono ?_;rintro e E ⟨k,l,rfl,S,c⟩;replace F:Hid (w.heap.size+1<T.heap.size):=s.out.lt;have O1:=Hd (v.out.below c);have y:=Hd (s.out.below c);have t:=Hd (d.out.trans (c.mono d.out.size));replace n:=Hd (dcsAt_rf n.out (chg_below c) (Nat.le_refl _));have z:=Hd (stsAt_rfw (B':=w.heap.size+2) S (by have:=F.out;omega))
 clear c S v s d C;have u2:E.cell? ⟨w.heap.size,2,none⟩=some (.slice o j p):=cr O1.out;have z2:E.frozen? ⟨w.heap.size,2,none⟩=false:=own_frozen O1.out 2;obtain ⟨U,B⟩:=Qx (E.setRow w.heap.size #[.string f,.slice b i a,.slice k j l,.int .i64 m]);have al:E.setCell ⟨w.heap.size,2,none⟩ (.slice k j l)=U:=by rw [B,setCell_row O1.out 2 _];rfl
 have ab:=O1.out.lt;have v:=Hd (O1.out.row #[.string f,.slice b i a,.slice k j l,.int .i64 m]);have s:=Hd (y.out.other (g:=w.heap.size) #[.string f,.slice b i a,.slice k j l,.int .i64 m] (by omega))
 have d:=Hd (Below.of_row t.out (Nat.le_refl _) #[.string f,.slice b i a,.slice k j l,.int .i64 m]);have C:Hid (U.heap.size=E.heap.size):=by rw [Hid,B,size_setRow]
 replace n:=Hd (dcsAt_rf n.out (chg_setRow (g:=w.heap.size) E #[.string f,.slice b i a,.slice k j l,.int .i64 m] (by omega)) (Nat.le_refl _))
 replace z:=Hd (stsAt_rf z.out (chg_setRow (g:=w.heap.size) E #[.string f,.slice b i a,.slice k j l,.int .i64 m] (by omega)) (Nat.le_refl _))
 rw [<- B] at v s d n z;clear O1 y t B ab;have M:=s.out;have aa:=v.out;go_wp2_with (first | (refine ld rowTh rfl rfl rfl aa rfl ?_) | (refine st rowTh rfl rfl M rfl rfl (by rfl) (by rfl) (by kernel_rfl) ?_))
 refine p_ret rowTh rfl (M.row #[.string f,.slice b i a,.slice k j l,.int .i64 m]) rfl rfl rfl ?_;have an:=d.out.size;refine ⟨b,a,k,l,by rw [N.out,O.out];rfl,?_,?_,Below.of_row d.out (Nat.le_succ _) #[.string f,.slice b i a,.slice k j l,.int .i64 m]⟩
 · exact dcsAt_rf n.out (chg_setRow (g:=w.heap.size+1) U #[.string f,.slice b i a,.slice k j l,.int .i64 m] (by omega)) (by omega)
 · exact stsAt_rf z.out (chg_setRow (g:=w.heap.size+1) U #[.string f,.slice b i a,.slice k j l,.int .i64 m] (by omega)) (by omega)
def Bx (w:World) (T:TypeId) (r z:Array Value) (W:World):Prop:=Own W w.heap.size T r/\Own W (w.heap.size+1) T z/\Below w.heap.size w W
section
variable {w W W':World} {T:TypeId} {r z:Array Value}
theorem bx_new (w:World) (T:TypeId) (r z:Array Value):Bx w T r z ((w.alloc (.cells r T)).alloc (.cells z T)) :=
 ⟨(Own.new w T r).alloc _,by have:=Own.new (w.alloc (.cells r T)) T z;rw [World.size_alloc] at this;exact this,((Below.refl _ w).alloc (Nat.le_refl _) _).alloc (by rw [World.size_alloc];omega) _⟩
theorem bx_drewN (h:Bx w T r z W) (n:Nat):Bx w T r z (W.drewN n):=⟨h.1.drewN n,h.2.1.drewN n,below_drewN h.2.2 n⟩
theorem bx_below (h:Bx w T r z W) (hb:Below W.heap.size W W'):Bx w T r z W':=⟨h.1.below hb,h.2.1.below hb,h.2.2.trans (hb.mono h.2.2.size)⟩
theorem bx_set (h:Bx w T r z W) (j:Nat) (v:Value):Bx w T (r.setIfInBounds j v) z (W.setCell ⟨w.heap.size,j,none⟩ v):=⟨h.1.setJ j v,h.2.1.setX j v (by omega),h.2.2.setCell (Nat.le_refl _) v⟩
theorem bx_cell (h:Bx w T r z W) {j:Nat} {v:Value} (hv:r[j]? = some v):W.cell? ⟨w.heap.size,j,none⟩=some v:=by rw [cell_of_row _ _ j _ _ _ h.1];exact hv
theorem bx_frozen (h:Bx w T r z W) (j:Nat):W.frozen? ⟨w.heap.size,j,none⟩=false:=own_frozen h.1 j
theorem bx_gt (h:Bx w T r z W):w.heap.size+1<W.heap.size:=h.2.1.lt
end
def K1 (w:World) (a b:ByteArray) (r z:Array Value) (W:World):Prop:=W.cell? ⟨w.heap.size,1,none⟩=some (.string a)/\W.cell? ⟨w.heap.size,2,none⟩=some (.string b)/\W.frozen? ⟨w.heap.size,1,none⟩=false/\W.frozen? ⟨w.heap.size,2,none⟩=false/\Bx w 120 r z W
section
variable {w W W':World} {k:Int} {nm ot:ByteArray} {v3 v4 v5 v6:Value} {z:Array Value}
theorem k1_of (h:Bx w 120 #[.int .u8 k,.string nm,.string ot,v3,v4,v5,v6] z W):K1 w nm ot #[.int .u8 k,.string nm,.string ot,v3,v4,v5,v6] z W:=⟨bx_cell h rfl,bx_cell h rfl,bx_frozen h 1,bx_frozen h 2,h⟩
theorem k1_drew (h:Bx w 120 #[.int .u8 k,.string nm,.string ot,v3,v4,v5,v6] z W):K1 w nm ot #[.int .u8 k,.string nm,.string ot,v3,v4,v5,v6] z W.drew:=k1_of (bx_drewN h 1)
theorem k1_below (h:K1 w nm ot #[.int .u8 k,.string nm,.string ot,v3,v4,v5,v6] z W) (hb:Below W.heap.size W W'):K1 w nm ot #[.int .u8 k,.string nm,.string ot,v3,v4,v5,v6] z W':=k1_of (bx_below h.2.2.2.2 hb)
theorem k1_set1 (h:K1 w nm ot #[.int .u8 k,.string nm,.string ot,v3,v4,v5,v6] z W):K1 w nm ot #[.int .u8 k,.string nm,.string ot,v3,v4,v5,v6] z (W.setCell ⟨w.heap.size,1,none⟩ (.string nm)):=k1_of (bx_set h.2.2.2.2 1 _)
theorem k1_set2 (h:K1 w nm ot #[.int .u8 k,.string nm,.string ot,v3,v4,v5,v6] z W):K1 w nm ot #[.int .u8 k,.string nm,.string ot,v3,v4,v5,v6] z (W.setCell ⟨w.heap.size,2,none⟩ (.string ot)):=k1_of (bx_set h.2.2.2.2 2 _)
end
def Dx (w:World) (r z:Array Value) (es:List Ex) (bo:List St) (a3 a4:Option Addr) (W:World):Prop:=Bx w 120 r z W/\exsAt (Rf (w.heap.size+2) W) W es a3/\stsAt (Rf (w.heap.size+2) W) W bo a4
def Fx (w:World) (r z:Array Value) (es:List Ex) (bo el:List St) (a3 a4 a5:Option Addr) (W:World):Prop:=Dx w r z es bo a3 a4 W/\stsAt (Rf (w.heap.size+2) W) W el a5
section
variable {w W W':World} {r z:Array Value} {es:List Ex} {bo el:List St} {a3 a4 a5:Option Addr}
theorem chg_far {g j:Nat} {v:Value} (W:World) (hg:g=w.heap.size):Chg (w.heap.size+2) W (W.setCell ⟨g,j,none⟩ v):=chg_setCell W j v (by omega)
theorem dx_of (h:Bx w 120 r z W) (h3:exsAt (Rf (w.heap.size+2) W) W es a3) (h4:stsAt (Rf W.heap.size W') W' bo a4) (hb:Below W.heap.size W W'):Dx w r z es bo a3 a4 W' :=
 ⟨bx_below h hb,exsAt_rf h3 (chg_below hb) (Nat.le_refl _),stsAt_rfw h4 (by have:=bx_gt h;omega)⟩
theorem dx_set (h:Dx w r z es bo a3 a4 W) (j:Nat) (v:Value):Dx w (r.setIfInBounds j v) z es bo a3 a4 (W.setCell ⟨w.heap.size,j,none⟩ v) :=
 ⟨bx_set h.1 j v,exsAt_rf h.2.1 (chg_far W rfl) (Nat.le_refl _),stsAt_rf h.2.2 (chg_far W rfl) (Nat.le_refl _)⟩
theorem fx_of (h:Dx w r z es bo a3 a4 W) (h5:stsAt (Rf W.heap.size W') W' el a5) (hb:Below W.heap.size W W'):Fx w r z es bo el a3 a4 a5 W' :=
 ⟨⟨bx_below h.1 hb,exsAt_rf h.2.1 (chg_below hb) (Nat.le_refl _),stsAt_rf h.2.2 (chg_below hb) (Nat.le_refl _)⟩,stsAt_rfw h5 (by have:=bx_gt h.1;omega)⟩
theorem fx_set (h:Fx w r z es bo el a3 a4 a5 W) (j:Nat) (v:Value):Fx w (r.setIfInBounds j v) z es bo el a3 a4 a5 (W.setCell ⟨w.heap.size,j,none⟩ v) :=
 ⟨dx_set h.1 j v,stsAt_rf h.2 (chg_far W rfl) (Nat.le_refl _)⟩
end
theorem cp_S (x:St) (HE:CpEs x.e) (HB:CpSs x.body) (HL:CpSs x.els):CpS x:=by
 intro hf A z r t o q w h3 h4 h5;obtain ⟨k,n,p,H,K,L,y⟩:=x;obtain ⟨f1,f2,⟨f3,f4⟩,⟨f5,f6⟩,f7,f8⟩:=hf;have ah:Hid (∀ s W,(s=n\/s=p)->Calls Tryz.prog 63 #[.string s] W fun e w'=>e=.returned (.string s)/\Below W.heap.size W w'):=fun s W hs=>by
  rcases hs with rfl | rfl
  · exact p_clone _ f1 W
  · exact p_clone _ f2 W
 have Z:Hid (∀ W,Below w.heap.size w W->Calls Tryz.prog 200 #[.slice A H.length z,.func (.func 201) #[] #[]] W fun e w'=>∃ a' c',e=.returned (.slice a' H.length c')/\exsAt (Rf W.heap.size w') w' H a'/\Below W.heap.size W w'):=fun W hW=>HE f4 f3 A z W (exsAt_below h3 hW)
 have Q:Hid (∀ W,Below w.heap.size w W->Calls Tryz.prog 163 #[.slice r K.length t,.func (.func 164) #[] #[]] W fun e w'=>∃ a' c',e=.returned (.slice a' K.length c')/\stsAt (Rf W.heap.size w') w' K a'/\Below W.heap.size W w'):=fun W hW=>HB f6 f5 r t W (stsAt_below h4 hW)
 have aa:Hid (∀ W,Below w.heap.size w W->Calls Tryz.prog 163 #[.slice o L.length q,.func (.func 164) #[] #[]] W fun e w'=>∃ a' c',e=.returned (.slice a' L.length c')/\stsAt (Rf W.heap.size w') w' L a'/\Below W.heap.size W w'):=fun W hW=>HL f8 f7 o q W (stsAt_below h5 hW)
 change Calls _ _ #[.agg #[.int .u8 k,.string n,.string p,.slice A H.length z,.slice r K.length t,.slice o L.length q,.int .i64 y]] w _;clear h3 h4 h5 f1 f2 f3 f4 f5 f6 f7 f8 HE HB HL;obtain ⟨l,E⟩:=Qx H.length;rw [<- E] at Z ⊢;obtain ⟨m,J⟩:=Qx K.length;rw [<- J] at Q ⊢;obtain ⟨i,D⟩:=Qx L.length;rw [<- D] at aa ⊢;have al:=Hd E;have ag:=Hd J;have aj:=Hd D;clear E J D;have B:=Hd (bx_new w 120 #[.int .u8 k,.string n,.string p,.slice A l z,.slice r m t,.slice o i q,.int .i64 y] zSt);go_enter Tryz.func164,Tryz.ntmps164;go_upto_region 1 with (fail)
 rw [show (#[.int .u8 0,.string ⟨#[]⟩,.string ⟨#[]⟩,.slice none 0 0,.slice none 0 0,.slice none 0 0,.int .i64 0]:Array Value)=zSt from rfl]
 obtain ⟨W0,X⟩:=Qx ((w.alloc (.cells #[.int .u8 k,.string n,.string p,.slice A l z,.slice r m t,.slice o i q,.int .i64 y] 120)).alloc (.cells zSt 120));rw [<- X] at B ⊢;clear X;go_cut [] (fun wx=>K1 w n p #[.int .u8 k,.string n,.string p,.slice A l z,.slice r m t,.slice o i q,.int .i64 y] zSt wx)
 case first =>
  go_region_held3 (fun W=>W.cell? ⟨w.heap.size,1,none⟩=some (.string n)/\W.cell? ⟨w.heap.size,2,none⟩=some (.string p)/\W.frozen? ⟨w.heap.size,1,none⟩=false/\W.frozen? ⟨w.heap.size,2,none⟩=false/\Bx w 120 #[.int .u8 k,.string n,.string p,.slice A l z,.slice r m t,.slice o i q,.int .i64 y] zSt W) (first | exact k1_drew B.out | exact k1_set1 (by assumption) | exact k1_set2 (by assumption) | exact k1_below (by assumption) (by assumption)) (first | (go_at_call 63;refine (ah.out _ _ (by first | exact .inl rfl | exact .inr rfl)).mono ?_;rintro e O ⟨rfl,G⟩))
  all_goals (go_wp2_with fail;go_meet;(first | assumption | (case rel=>assumption)))
 case rest =>
  have B:=Hd hcut.2.2.2.2;clear hcut;have y3:wc.cell? ⟨w.heap.size,3,none⟩=some (.slice A l z):=bx_cell B.out rfl;go_wp2_with fail;go_at_call 200;refine (Z.out _ B.out.2.2).mono ?_;rintro e O ⟨a,f,rfl,V,G⟩;have H3:=bx_below B.out G;have X3:=exsAt_rfw (B':=w.heap.size+2) V (by have:=bx_gt B.out;omega)
  have u3:O.cell? ⟨w.heap.size,3,none⟩=some (.slice A l z):=bx_cell H3 rfl;have z3:O.frozen? ⟨w.heap.size,3,none⟩=false:=bx_frozen H3 3;have H4:Hid (Bx w 120 #[.int .u8 k,.string n,.string p,.slice a l f,.slice r m t,.slice o i q,.int .i64 y] zSt (O.setCell ⟨w.heap.size,3,none⟩ (.slice a l f))):=bx_set H3 3 _;have X4:=Hd (exsAt_rf X3 (chg_far (w:=w) (j:=3) (v:=.slice a l f) O rfl) (Nat.le_refl _));obtain ⟨M,C⟩:=Qx (O.setCell ⟨w.heap.size,3,none⟩ (.slice a l f));rw [<- C] at H4 X4;have e4:=C.symm;clear C H3 X3 G V B y3;go_upto_region 3 with (fail)
  clear u3 z3 e4;have be:Below w.heap.size w M.drew:=below_drewN H4.out.2.2 1;have HZ:=Hd (bx_drewN H4.out 1);have XZ:Hid (exsAt (Rf (w.heap.size+2) M.drew) M.drew H a):=exsAt_rf X4.out (chg_below (below_drewN (Below.refl _ M) 1)) (Nat.le_refl _);have y4:M.cell? ⟨w.heap.size,4,none⟩=some (.slice r m t):=bx_cell H4.out rfl;have y5:M.cell? ⟨w.heap.size,5,none⟩=some (.slice o i q):=bx_cell H4.out rfl;go_cut [] (fun wx=>∃ b c d g,Fx w #[.int .u8 k,.string n,.string p,.slice a l f,.slice b m c,.slice d i g,.int .i64 y] zSt H K L a b d wx)
  case first =>
   go_region_with (first
    | (go_at_call_of 163 (Value.slice r m t)
       refine (Q.out _ (by assumption)).mono ?_
       rintro e w5 ⟨b,c,rfl,T,P⟩
       have U:=dx_of HZ.out XZ.out T P
       have Y:=dx_set U 4 (.slice b m c)
       have ay:=U.1.2.2
       have ak:=Y.1.2.2
       have p4:w5.cell? ⟨w.heap.size,4,none⟩=some (.slice r m t):=bx_cell U.1 rfl
       have p5:w5.cell? ⟨w.heap.size,5,none⟩=some (.slice o i q):=bx_cell U.1 rfl
       have a8:w5.frozen? ⟨w.heap.size,4,none⟩=false:=bx_frozen U.1 4
       have bg:(w5.setCell ⟨w.heap.size,4,none⟩ (.slice b m c)).cell? ⟨w.heap.size,5,none⟩=some (.slice o i q):=bx_cell Y.1 rfl
       clear T P)
    | (go_at_call_of 163 (Value.slice o i q)
       refine (aa.out _ (by assumption)).mono ?_
       rintro e w6 ⟨d,g,rfl,S,ac⟩
       have R:=fx_of (by assumption) S ac
       have q5:w6.cell? ⟨w.heap.size,5,none⟩=some (.slice o i q):=bx_cell R.1.1 rfl
       have bc:w6.frozen? ⟨w.heap.size,5,none⟩=false:=bx_frozen R.1.1 5
       have bb:w6.frozen? ⟨w.heap.size,4,none⟩=false:=bx_frozen R.1.1 4
       obtain ⟨v4,q4⟩:∃ v,w6.cell? ⟨w.heap.size,4,none⟩=some v:=⟨_,bx_cell R.1.1 rfl⟩
       clear S ac))
   all_goals (go_wp2_with fail;go_meet;exact ⟨b,c,d,g,fx_set (fx_set R 4 _) 5 _⟩)
  case rest =>
   obtain ⟨b,c,d,g,hF⟩:=hcut;have N:=Hd hF;have ai:=N.out.1.1.1;have I:=N.out.1.1.2.1;clear hF;unfold zSt at I;go_wp2_with (first | (refine ld rowSt rfl rfl rfl ai rfl ?_) | (refine st rowSt rfl rfl I rfl rfl (by rfl) (by rfl) (by kernel_rfl) ?_))
   refine p_ret rowSt rfl (I.row #[.int .u8 k,.string n,.string p,.slice a l f,.slice b m c,.slice d i g,.int .i64 y]) rfl rfl rfl ?_;have F:Chg (w.heap.size+2) wc (wc.setRow (w.heap.size+1) #[.int .u8 k,.string n,.string p,.slice a l f,.slice b m c,.slice d i g,.int .i64 y]):=chg_setRow wc _ (by omega)
   refine ⟨a,f,b,c,d,g,by rw [al.out,ag.out,aj.out];rfl,?_,?_,?_,Below.of_row N.out.1.1.2.2 (Nat.le_succ _) #[.int .u8 k,.string n,.string p,.slice a l f,.slice b m c,.slice d i g,.int .i64 y]⟩
   · exact exsAt_rf N.out.1.2.1 F (by omega)
   · exact stsAt_rf N.out.1.2.2 F (by omega)
   · exact stsAt_rf N.out.2 F (by omega)
theorem cpE:∀ x:Ex,CpE x:=by
 intro x;induction x using Ex.ind with
 | h k o wd nm ks ps ih=>exact cp_E _ (cp_each_E ih)
theorem cpS:∀ x:St,CpS x:=by
 intro x;induction x using St.ind with
 | h k n o e b l ps ihb ihl=>exact cp_S _ (cp_each_E fun y _=>cpE y) (cp_each_S ihb) (cp_each_S ihl)
theorem cpT (x:Th):CpT x:=cp_T x (cp_each_D fun y _=>cp_D y) (cp_each_S fun y _=>cpS y)
def fitP (p:Pg):Prop:=(32*p.shared.length<=140737488355328/\fitDs p.shared)/\(32*p.locks.length<=140737488355328/\fitDs p.locks)/\72*p.threads.length<=140737488355328/\fitTs p.threads
def K2 (w:World) (v0 v1 v2:Value) (W:World):Prop:=W.cell? ⟨w.heap.size,0,none⟩=some v0/\W.cell? ⟨w.heap.size,1,none⟩=some v1/\W.cell? ⟨w.heap.size,2,none⟩=some v2/\Own W w.heap.size 26 #[v0,v1,v2]/\Below w.heap.size w W
section
variable {w W W':World} {v0 v1 v2:Value}
theorem k2_of (h:Own W w.heap.size 26 #[v0,v1,v2]) (hb:Below w.heap.size w W):K2 w v0 v1 v2 W:=⟨cr h,cr h,cr h,h,hb⟩
theorem k2_below (h:K2 w v0 v1 v2 W) (hb:Below W.heap.size W W'):K2 w v0 v1 v2 W':=k2_of (h.2.2.2.1.below hb) (h.2.2.2.2.trans (hb.mono h.2.2.2.2.size))
theorem k2_set (h:K2 w v0 v1 v2 W) (j:Nat) (v:Value):K2 w v0 v1 v2 (W.setCell ⟨w.heap.size+1,j,none⟩ v):=k2_of (h.2.2.2.1.setX j v (by omega)) (h.2.2.2.2.setCell (by show w.heap.size<=w.heap.size+1;omega) v)
end
def CpyP (x:Pg) (w:World) (e:Ending) (w':World):Prop:=∃ s1 s1' s2 s2' s3 s3',e=.returned (.agg #[.slice s1 x.shared.length s1',.slice s2 x.locks.length s2',.slice s3 x.threads.length s3'])/\dcsAt (Rf (w.heap.size+2) w') w' x.shared s1/\dcsAt (Rf (w.heap.size+2) w') w' x.locks s2/\thsAt (Rf (w.heap.size+2) w') w' x.threads s3/\Below w.heap.size w w'
theorem p_CopyF (x:Pg) (hf:fitP x) {v:Value} {w:World} (hv:pA w x v):Calls Tryz.prog 64 #[v] w (CpyP x w):=by
 obtain ⟨s,t,q,r,p,l,rfl,h1,h2,h3⟩:=hv;obtain ⟨⟨f1,f2⟩,⟨f3,f4⟩,f5,f6⟩:=hf;have P:Hid (∀ W,Below w.heap.size w W->Calls Tryz.prog 125 #[.slice s x.shared.length t,.func (.func 126) #[] #[]] W fun e w'=>∃ a' c',e=.returned (.slice a' x.shared.length c')/\dcsAt (Rf W.heap.size w') w' x.shared a'/\Below W.heap.size W w'):=fun W hW=>cp_each_D (fun y _=>cp_D y) f2 f1 s t W (dcsAt_below h1 hW)
 have M:Hid (∀ W,Below w.heap.size w W->Calls Tryz.prog 125 #[.slice q x.locks.length r,.func (.func 126) #[] #[]] W fun e w'=>∃ a' c',e=.returned (.slice a' x.locks.length c')/\dcsAt (Rf W.heap.size w') w' x.locks a'/\Below W.heap.size W w'):=fun W hW=>cp_each_D (fun y _=>cp_D y) f4 f3 q r W (dcsAt_below h2 hW)
 have Q:Hid (∀ W,Below w.heap.size w W->Calls Tryz.prog 127 #[.slice p x.threads.length l,.func (.func 128) #[] #[]] W fun e w'=>∃ a' c',e=.returned (.slice a' x.threads.length c')/\thsAt (Rf W.heap.size w') w' x.threads a'/\Below W.heap.size W w'):=fun W hW=>cp_each_T (fun y _=>cpT y) f6 f5 p l W (thsAt_below h3 hW)
 clear h1 h2 h3 f1 f2 f3 f4 f5 f6;obtain ⟨z,B⟩:=Qx x.shared.length;obtain ⟨m,J⟩:=Qx x.locks.length;obtain ⟨n,D⟩:=Qx x.threads.length;rw [<- B] at P ⊢;rw [<- J] at M ⊢;rw [<- D] at Q ⊢;have Z:=Hd (And.intro B (And.intro J D));clear B J D;have S:=Hd (bx_new w 26 #[.slice s z t,.slice q m r,.slice p n l] zPg);go_enter Tryz.func64,Tryz.ntmps64;go_upto_region 1 with (fail)
 rw [show (#[.slice none 0 0,.slice none 0 0,.slice none 0 0]:Array Value)=zPg from rfl]
 obtain ⟨Y,N⟩:=Qx ((w.alloc (.cells #[.slice s z t,.slice q m r,.slice p n l] 26)).alloc (.cells zPg 26));rw [<- N] at S ⊢;clear N;have I:Below w.heap.size w Y.drew:=below_drewN S.out.2.2 1;have H1:Hid (Own Y.drew w.heap.size 26 #[.slice s z t,.slice q m r,.slice p n l]):=S.out.1.drewN 1;have H2:Hid (Own Y.drew (w.heap.size+1) 26 zPg):=S.out.2.1.drewN 1
 go_region_held3 (fun W=>W.cell? ⟨w.heap.size,0,none⟩=some (.slice s z t)/\W.cell? ⟨w.heap.size,1,none⟩=some (.slice q m r)/\W.cell? ⟨w.heap.size,2,none⟩=some (.slice p n l)/\Own W w.heap.size 26 #[.slice s z t,.slice q m r,.slice p n l]/\Below w.heap.size w W) (first | exact k2_of H1.out I | exact k2_below (by assumption) (by assumption) | exact k2_set (k2_set (k2_set (by assumption) _ _) _ _) _ _) (first
  | (go_at_call_of 125 (Value.slice s z t)
     refine (P.out _ (by assumption)).mono ?_
     rintro e w5 ⟨d,F,rfl,aa,O⟩
     have Q5:=Hd (H2.out.below O)
     have A:=I.trans (O.mono I.size)
     have Y1:Hid (dcsAt (Rf (w.heap.size+2) w5) w5 x.shared d):=dcsAt_rfw aa (by have:=H2.out.lt;omega))
  | (go_at_call_of 125 (Value.slice q m r)
     refine (M.out _ (by assumption)).mono ?_
     rintro e T ⟨f,G,rfl,X,L⟩
     have Q6:=Hd (Q5.out.below L)
     have ag:=A.trans (L.mono A.size)
     have Z1:Hid (dcsAt (Rf (w.heap.size+2) T) T x.shared d):=dcsAt_rf Y1.out (chg_below L) (Nat.le_refl _)
     have Z2:Hid (dcsAt (Rf (w.heap.size+2) T) T x.locks f):=dcsAt_rfw X (by have:=Q5.out.lt;omega))
  | (go_at_call_of 127 (Value.slice p n l)
     refine (Q.out _ (by assumption)).mono ?_
     rintro e a ⟨i,H,rfl,U,C⟩
     have K:=Hd (Q6.out.below C)
     have U1:Hid (dcsAt (Rf (w.heap.size+2) a) a x.shared d):=dcsAt_rf Z1.out (chg_below C) (Nat.le_refl _)
     have U2:Hid (dcsAt (Rf (w.heap.size+2) a) a x.locks f):=dcsAt_rf Z2.out (chg_below C) (Nat.le_refl _)
     have U3:Hid (thsAt (Rf (w.heap.size+2) a) a x.threads i):=thsAt_rfw U (by have:=Q6.out.lt;omega)
     have q0:a.cell? ⟨w.heap.size+1,0,none⟩=some (.slice none 0 0):=cr K.out
     have q1:a.cell? ⟨w.heap.size+1,1,none⟩=some (.slice none 0 0):=cr K.out
     have q2:a.cell? ⟨w.heap.size+1,2,none⟩=some (.slice none 0 0):=cr K.out
     have ay:a.frozen? ⟨w.heap.size+1,0,none⟩=false:=own_frozen K.out 0
     have ar:a.frozen? ⟨w.heap.size+1,1,none⟩=false:=own_frozen K.out 1
     have a0:a.frozen? ⟨w.heap.size+1,2,none⟩=false:=own_frozen K.out 2))
 have R3:=((K.out.setJ 0 (.slice d z F)).setJ 1 (.slice f m G)).setJ 2 (.slice i n H);obtain ⟨W8,g⟩:=Qx (((a.setCell ⟨w.heap.size+1,0,none⟩ (.slice d z F)).setCell ⟨w.heap.size+1,1,none⟩ (.slice f m G)).setCell ⟨w.heap.size+1,2,none⟩ (.slice i n H));have E:Chg (w.heap.size+2) a W8:=by
  rw [g]
  exact fun b hb hlt=>⟨fun o v hv=>by
   have k:∀ (W:World) (j:Nat) (u:Value),W.cell? ⟨b,o,none⟩=some v->(W.setCell ⟨w.heap.size+1,j,none⟩ u).cell? ⟨b,o,none⟩=some v:=fun W j u h=>by
    exact stays_setX (R:=fun c=>c=b) W j u (fun c hc=>by omega) b o v rfl h
   exact k _ _ _ (k _ _ _ (k _ _ _ hv)),fun h=>uf_setCell (uf_setCell (uf_setCell h _ _) _ _) _ _⟩
 have V:Below w.heap.size w W8:=by rw [g];exact ((by assumption:K2 w _ _ _ _).2.2.2.2)
 rw [<- g] at R3 ⊢;clear g;go_wp2_with fail;refine p_ret rowPg rfl R3 rfl rfl rfl ?_;exact ⟨d,F,f,G,i,H,by rw [Z.out.1,Z.out.2.1,Z.out.2.2];rfl,dcsAt_rf U1.out E (Nat.le_refl _),dcsAt_rf U2.out E (Nat.le_refl _),thsAt_rf U3.out E (Nat.le_refl _),V⟩
set_option linter.unusedVariables false
abbrev Bk:=Int × ByteArray × Int
def Tk.bt (t:Tk):Bk:=(t.kind,t.text,t.wd)
def sgK (s:Bs):Bk:=(4,⟨s.toArray⟩,0)
def kidK (b:Bool) (l:List Bk):List Bk:=bif b then sgK [40]::(l++[sgK [41]]) else l
def kid1K (ks:List Ex) (ts:List (List Bk)):List Bk:=match ks,ts with | [x],[t]=>kidK (x.kind==4) t | _,_=>[]
def kid2K (o:Int) (ks:List Ex) (ts:List (List Bk)):List Bk:=match ks,ts with | [x,y],[t,u]=>kidK (wrL o x) t++(sgK (signOf o)::kidK (wrR o y) u) | _,_=>[]
def kK (k o wd:Int) (n:ByteArray) (ks:List Ex) (ts:List (List Bk)):List Bk :=
 if k=1 then [(3,itoaS wd,wd)] else if k=2 then [(1,n,0)] else if k=3 then sgK (signOf o)::kid1K ks ts else if k=4 then kid2K o ks ts else []
mutual
def kE:Ex->List Bk
 | .mk k o wd n ks _=>kK k o wd n ks (kEs ks)
def kEs:List Ex->List (List Bk)
 | []=>[]
 | x::r=>kE x::kEs r
end
def nxt:List Tk->Int
 | []=>0
 | t::_=>if (fnd t.tx).2=true then levelI (fnd t.tx).1 else 0
theorem fnd_two (o:Int) (h:twoB o=true):fnd (signOf o)=(o,true)/\levelI o=levelOf o/\1<=o/\o<=16:=by
 unfold twoB levelOf at h;have a:1<=o/\o<=16:=by
  by_cases h19:19<=o
  · rw [if_pos h19] at h;simp at h
  · rw [if_neg h19] at h
    by_cases h0:o<=0
    · have : o.toNat = 0 := by omega
      rw [this] at h;simp [lev] at h
    · have : ∀ i : Nat, i < 19 -> (decide (0 < lev.getD i 0) && decide (lev.getD i 0 < 9)) = true -> i <= 16 := by decide
      have:=this o.toNat (by omega) h
      omega
 have:∀ i:Nat,i<=16->1<=i->fnd (sgn.getD i [])=((i:Int),true)/\sLevel.getD i 0=lev.getD i 0:=by decide
 have:=this o.toNat (by omega) (by omega)
 refine ⟨?_,?_,a⟩
 · unfold signOf;rw [if_neg (by omega),this.1,Int.toNat_of_nonneg (by omega)]
 · unfold levelI levelOf;rw [if_neg (by omega)];exact this.2
theorem bt_tx {t:Tk} {s:Bs} (h:t.bt=sgK s):t.kind=4/\t.tx=s:=by
 unfold Tk.bt sgK at h;simp only [Prod.mk.injEq] at h;exact ⟨h.1,by unfold Tk.tx;rw [h.2.1]⟩
section
variable {L:Int}
theorem binL_halt {n:Nat} {v d:Int} {e:Ex} {r:List Tk} (hn:1<=n) (hv:1<=v) (h:nxt r<v):binL fnd L n v d e r=.ok e r:=by
 obtain ⟨m,rfl⟩:∃ m,n=m+1:=⟨n-1,by omega⟩
 cases r with
 | nil=>simp only [binL]
 | cons t r =>
   simp only [binL];rw [if_neg];rintro ⟨a,b⟩;simp only [nxt,if_pos a] at h;omega
def OpX (x:Ex):Prop:=∀ (L d:Int) (n:Nat) (ts r:List Tk),rE x d=true->x.kind≠4->ts.map Tk.bt=kE x->3*(ts++r).length+1<=n->∃ e,opnd fnd L n d (ts++r)=.ok e r/\sameE x e=true
def BiX (x:Ex):Prop:=∀ (L v d:Int) (n:Nat) (ts r:List Tk),rE x d=true->1<=v->(x.kind=4->v<=levelOf x.op/\nxt r<=levelOf x.op)->ts.map Tk.bt=kE x->3*(ts++r).length+2<=n ->
 ∃ n' e,3*r.length+1<=n'/\binE fnd L n v d (ts++r)=binL fnd L n' v d e r/\sameE x e=true
theorem rE_deep {x:Ex} {d:Int} (h:rE x d=true):d<=64:=by
 obtain ⟨k,o,wd,n,a,b⟩:=x;simp only [rE,Bool.and_eq_true,decide_eq_true_eq] at h;exact h.1
theorem rE_two {x:Ex} {d:Int} (h:rE x d=true) (hk:x.kind=4):twoB x.op=true:=by
 obtain ⟨k,o,wd,n,a,b⟩:=x;obtain rfl:k=4:=hk;simp only [rE,kB,Bool.and_eq_true] at h;have:=h.2.2.2;simp only [show ¬ ((4:Int)=1\/(4:Int)=2) by omega,if_false,show ¬ ((4:Int)=3) by omega,if_true,Bool.and_eq_true] at this
 exact this.1
theorem two_pos {o:Int} (h:twoB o=true):1<=levelOf o/\levelOf o<=8:=by
 unfold twoB at h;simp only [Bool.and_eq_true,decide_eq_true_eq] at h;omega
theorem paren {x:Ex} (H:BiX x) {L d:Int} {n:Nat} {t1 t2:Tk} {ts r:List Tk} (hr:rE x (d+1)=true) (h1:t1.bt=sgK [40]) (h2:t2.bt=sgK [41]) (h:ts.map Tk.bt=kE x) (hn:3*(ts++t2::r).length+4<=n) :
 ∃ e,opnd fnd L n d (t1::(ts++t2::r))=.ok e r/\sameE x e=true:=by
 obtain ⟨m,rfl⟩:∃ m,n=m+1:=⟨n-1,by omega⟩
 obtain ⟨b,a⟩:=bt_tx h1;obtain ⟨k,c⟩:=bt_tx h2;have j:=rE_deep hr;have i:nxt (t2::r)=0:=by simp only [nxt,c];rw [if_neg (by decide)]
 obtain ⟨l,e,o,f,g⟩:=H L 1 (d+1) m ts (t2::r) hr (by omega) (fun hk=>by have:=two_pos (rE_two hr hk);omega) h (by omega)
 refine ⟨e,?_,g⟩;simp only [opnd];rw [if_neg (by rw [b];omega),if_neg (by rw [b];omega),if_neg (by rw [a];decide),if_neg (by rw [a];decide),if_pos a,if_neg (by omega),f,binL_halt (by omega) (by omega) (by omega)]
 simp only [PR.then_ok];unfold need isT;simp only [c];rfl
theorem kid_opnd {y:Ex} (H1:OpX y) (H2:BiX y) {L d:Int} {n:Nat} {b:Bool} {ts r:List Tk} (hb:b=false->y.kind≠4) (hr:rE y (d+b2i b)=true) (h:ts.map Tk.bt=kidK b (kE y)) (hn:3*(ts++r).length+1<=n) :
 ∃ e,opnd fnd L n d (ts++r)=.ok e r/\sameE y e=true:=by
 cases b with
 | false =>
   have hr:rE y d=true:=by simpa [b2i] using hr
   exact H1 L d n ts r hr (hb rfl) h hn
 | true =>
   have hr:rE y (d+1)=true:=by simpa [b2i] using hr
   have h:ts.map Tk.bt=sgK [40]::(kE y++[sgK [41]]):=h;obtain ⟨m,l,rfl,i,g⟩:=List.map_eq_cons_iff.1 h;obtain ⟨q,o,rfl,c,f⟩:=List.map_eq_append_iff.1 g;obtain ⟨p,j,rfl,k,a⟩:=List.map_eq_cons_iff.1 f;obtain rfl:j=[]:=by simpa using a
   have:=paren H2 (L:=L) (n:=n) (r:=r) hr i k c (by simp at hn ⊢;omega)
   simpa using this
theorem nm_none {n:ByteArray} (h:nmB n false=true):n.data.toList=[]:=by
 unfold nmB at h;simpa using h
theorem back_ex:∀ x:Ex,OpX x/\BiX x:=by
 intro x;induction x using Ex.ind with
 | h k o wd nm ks ps ih =>
   have p:∀ y∈ks,OpX y:=fun y R=>(ih y R).1
   have i:∀ y∈ks,BiX y:=fun y R=>(ih y R).2
   have HO:OpX (.mk k o wd nm ks ps):=by
    intro L d n ts r S q h hn;obtain ⟨m,rfl⟩:∃ m,n=m+1:=⟨n-1,by omega⟩
    have q:k≠4:=q;simp only [rE,Bool.and_eq_true,decide_eq_true_eq] at S;obtain ⟨hd,N,G,c⟩:=S;simp only [kE] at h;unfold kK at h;unfold kB at c;by_cases k1:k=1
    · subst k1
      rw [if_pos rfl] at h;rw [if_pos (.inl rfl)] at c;simp only [Bool.and_eq_true,beq_iff_eq] at c;obtain ⟨t,l,rfl,B,K⟩:=List.map_eq_cons_iff.1 h;obtain rfl:l=[]:=by simpa using K
      unfold Tk.bt at B;simp only [Prod.mk.injEq] at B;obtain rfl:ks=[]:=by simpa using c.2
      have E:=nm_none G;refine ⟨.mk 1 0 t.wd ⟨#[]⟩ [] t.pos,?_,?_⟩
      · show opnd fnd L (m + 1) d (t :: r) = _
        simp only [opnd];rw [if_pos B.1]
      · simp only [sameE,sameEs,c.1,E,B.2.2,beq_self_eq_true,Bool.and_self]
    by_cases k2:k=2
    · subst k2
      rw [if_neg (by omega),if_pos rfl] at h
      rw [if_pos (.inr rfl)] at c;simp only [Bool.and_eq_true,beq_iff_eq] at c;obtain ⟨t,l,rfl,B,K⟩:=List.map_eq_cons_iff.1 h;obtain rfl:l=[]:=by simpa using K
      unfold Tk.bt at B;simp only [Prod.mk.injEq] at B;obtain rfl:ks=[]:=by simpa using c.2
      have C:wd=0:=by unfold wdB at N;simpa using N
      refine ⟨.mk 2 0 0 t.text [] t.pos,?_,?_⟩
      · show opnd fnd L (m + 1) d (t :: r) = _
        simp only [opnd];rw [if_neg (by rw [B.1];omega),if_pos B.1]
      · simp only [sameE,sameEs,c.1,C,B.2.1,beq_self_eq_true,Bool.and_self]
    by_cases k3:k=3
    · subst k3
      rw [if_neg (by omega),if_neg (by omega),if_pos rfl] at h
      rw [if_neg (by omega),if_pos rfl] at c
      simp only [Bool.and_eq_true] at c;obtain ⟨ho,g⟩:=c;match ks,g,h,p,i with
      | [y], g, h, p, i =>
        have R:rE y (d+1+b2i (y.kind==4))=true:=by simpa [kid1,rEs] using g
        have h:ts.map Tk.bt=sgK (signOf o)::kidK (y.kind==4) (kE y):=h;obtain ⟨t,l,rfl,B,K⟩:=List.map_eq_cons_iff.1 h;obtain ⟨e,z,e2⟩:=kid_opnd (p y (.head _)) (i y (.head _)) (L:=L) (n:=m) (r:=r) (fun hb=>by simpa using hb) R K (by simp at hn ⊢;omega)
        obtain ⟨q1,Q⟩:=bt_tx B;have aw:=rE_deep R;have au:0<=b2i (y.kind==4):=(b2i_01 _).1;have E:=nm_none G;have C:wd=0:=by unfold wdB at N;simpa using N
        have af:o=17\/o=18:=by unfold oneB at ho;simpa using ho
        refine ⟨unX o t.pos e,?_,?_⟩
        · show opnd fnd L (m + 1) d (t :: (l ++ r)) = _
          simp only [opnd];rw [if_neg (by rw [q1];omega),if_neg (by rw [q1];omega)]
          rcases af with rfl | rfl
          · rw [if_pos (by rw [Q];decide),if_neg (by omega),z];rfl
          · rw [if_neg (by rw [Q];decide),if_pos (by rw [Q];decide),if_neg (by omega),z];rfl
        · simp only [unX,sameE,sameEs,E,C,e2,beq_self_eq_true,Bool.and_self]
      | [],g,_,_,_=>simp [kid1] at g
      | _::_::_,g,_,_,_=>simp [kid1] at g
    · rw [if_neg (by omega), if_neg k3, if_neg q] at c
      cases c
   refine ⟨HO,?_⟩;intro L v d n ts r S hv aa h hn;obtain ⟨m,rfl⟩:∃ m,n=m+1:=⟨n-1,by omega⟩
   by_cases q:k=4
   · subst q
     obtain ⟨V,ah⟩:=aa rfl;simp only [Ex.op] at V ah;simp only [rE,Bool.and_eq_true,decide_eq_true_eq] at S;obtain ⟨hd,N,G,c⟩:=S;simp only [kE] at h;unfold kK at h;unfold kB at c;rw [if_neg (by omega),if_neg (by omega),if_neg (by omega),if_pos rfl] at h
     rw [if_neg (by omega),if_neg (by omega),if_pos rfl] at c
     simp only [Bool.and_eq_true] at c;obtain ⟨ho,g⟩:=c;obtain ⟨hf,W,_,_⟩:=fnd_two o ho;have ay:=two_pos ho;match ks,g,h,p,i with
     | [a, b], g, h, p, i =>
       have H:rE a (d+b2i (wrL o a))=true/\rE b (d+b2i (wrR o b))=true:=by simpa [kid2,rEs] using g
       have h:ts.map Tk.bt=kidK (wrL o a) (kE a)++(sgK (signOf o)::kidK (wrR o b) (kE b)):=h;obtain ⟨I,l,rfl,A,K⟩:=List.map_eq_append_iff.1 h;obtain ⟨t,j,rfl,ht,s⟩:=List.map_eq_cons_iff.1 K;obtain ⟨q1,Q⟩:=bt_tx ht;have ak:nxt (t::(j++r))=levelOf o:=by simp only [nxt,Q,hf];rw [if_pos trivial,W]
       have T:(I++t::j++r).length=I.length+(j++r).length+1:=by simp;omega
       rw [T] at hn;have ea:(I++t::j)++r=I++(t::(j++r)):=by simp
       have D:(I++(t::(j++r))).length=I.length+(j++r).length+1:=by simp;omega
       have al:r.length<=(j++r).length:=by simp
       have P:∃ O z,3*(j++r).length+4<=O/\binE fnd L (m+1) v d (I++(t::(j++r)))=binL fnd L O v d z (t::(j++r))/\sameE a z=true:=by
        cases hwr:wrL o a with
        | true =>
          rw [hwr] at A;have J:=H.1;rw [hwr] at J;obtain ⟨z,x1,Z⟩:=kid_opnd (p a (.head _)) (i a (.head _)) (L:=L) (n:=m) (r:=t::(j++r)) (fun hb=>by cases hb) J A (by rw [D];omega)
          refine ⟨m,z,by omega,?_,Z⟩
          simp only [binE];rw [x1];rfl
        | false =>
          rw [hwr] at A;have J:rE a d=true:=by have:=H.1;rw [hwr] at this;simpa [b2i] using this
          have A:I.map Tk.bt=kE a:=A;have ai:a.kind=4->levelOf o<=levelOf a.op:=fun q=>by
           unfold wrL at hwr;rw [q] at hwr;simpa using hwr
          obtain ⟨O,z,x0,x1,Z⟩:=i a (.head _) L v d (m+1) I (t::(j++r)) J hv (fun q=>by have:=ai q;rw [ak];omega) A (by rw [D];omega)
          refine ⟨O,z,by simp at x0 ⊢;omega,x1,Z⟩
       obtain ⟨O,z,x0,x1,Z⟩:=P;obtain ⟨X,rfl⟩:∃ m,O=m+1:=⟨O-1,by omega⟩
       have M:∃ f,binE fnd L X (levelOf o+1) d (j++r)=.ok f r/\sameE b f=true:=by
        cases hwr:wrR o b with
        | true =>
          rw [hwr] at s;have F:=H.2;rw [hwr] at F;obtain ⟨m2,rfl⟩:∃ m,X=m+1:=⟨X-1,by omega⟩
          obtain ⟨f,Y,U⟩:=kid_opnd (p b (.tail _ (.head _))) (i b (.tail _ (.head _))) (L:=L) (n:=m2) (r:=r) (fun hb=>by cases hb) F s (by omega)
          refine ⟨f,?_,U⟩;simp only [binE];rw [Y];exact binL_halt (by omega) (by omega) (by omega)
        | false =>
          rw [hwr] at s;have F:rE b d=true:=by have:=H.2;rw [hwr] at this;simpa [b2i] using this
          have s:j.map Tk.bt=kE b:=s;have ag:b.kind=4->levelOf o+1<=levelOf b.op:=fun q=>by
           unfold wrR at hwr;rw [q] at hwr;have:levelOf o<levelOf b.op:=by simpa using hwr
           omega
          obtain ⟨n2,f,y0,Y,U⟩:=i b (.tail _ (.head _)) L (levelOf o+1) d X j r F (by omega) (fun q=>by have:=ag q;omega) s (by omega)
          refine ⟨f,?_,U⟩;rw [Y];exact binL_halt (by omega) (by omega) (by omega)
       obtain ⟨f,Y,U⟩:=M;have E:=nm_none G;have C:wd=0:=by unfold wdB at N;simpa using N
       refine ⟨X,biX o t.pos z f,by omega,?_,?_⟩
       · rw [ea, x1]
         simp only [binL,Q,hf,W];rw [if_pos ⟨trivial,V⟩,Y];rfl
       · simp only [biX,sameE,sameEs,E,C,Z,U,beq_self_eq_true,Bool.and_self]
     | [],g,_,_,_=>simp [kid2] at g
     | [_],g,_,_,_=>simp [kid2] at g
     | _::_::_::_,g,_,_,_=>simp [kid2] at g
   · obtain ⟨e, z, e2⟩ := HO L d m ts r S q h (by omega)
     refine ⟨m,e,by simp at hn ⊢;omega,?_,e2⟩
     simp only [binE];rw [z];rfl
end
set_option linter.unusedVariables false
def kW (s:Bs):Bk:=(2,⟨s.toArray⟩,0)
def kN (n:ByteArray):Bk:=(1,n,0)
def e0K:List Ex->List Bk | x::_=>kE x | []=>[]
mutual
def kS:St->List Bk
 | .mk k n o e b l _ =>
   if k=1 then kN n::sgK [61]::(e0K e++[sgK [59]])
   else if k=2 then kN n::sgK [61]::kW [115,119,97,112]::sgK [40]::kN o::sgK [44]::(e0K e++[sgK [41],sgK [59]])
   else if k=3 then kW [105,102]::sgK [40]::(e0K e++(sgK [41]::sgK [123]::(kSs b++(sgK [125]::(if 0<l.length then kW [101,108,115,101]::sgK [123]::(kSs l++[sgK [125]]) else [])))))
   else if k=4 then kW [119,104,105,108,101]::sgK [40]::(e0K e++(sgK [41]::sgK [123]::(kSs b++[sgK [125]])))
   else if k=5 then kW [108,111,99,107]::kN n::sgK [123]::(kSs b++[sgK [125]])
   else if k=6 then kW [112,114,105,110,116]::(e0K e++[sgK [59]])
   else [kW [115,107,105,112],sgK [59]]
def kSs:List St->List Bk
 | []=>[]
 | x::r=>kS x++kSs r
end
theorem bt_w {t:Tk} {s:Bs} (h:t.bt=kW s):t.kind=2/\t.tx=s:=by
 unfold Tk.bt kW at h;simp only [Prod.mk.injEq] at h;exact ⟨h.1,by unfold Tk.tx;rw [h.2.1]⟩
theorem bt_n {t:Tk} {n:ByteArray} (h:t.bt=kN n):t.kind=1/\t.text=n:=by
 unfold Tk.bt kN at h;simp only [Prod.mk.injEq] at h;exact ⟨h.1,h.2.1⟩
theorem need_tok {L:Int} {s:Bs} {t:Tk} {r:List Tk} (h:t.tx=s):need L s (t::r)=.ok () r:=by
 unfold need isT;simp [h]
theorem nxt_sg {t:Tk} {r:List Tk} {s:Bs} (h:t.tx=s) (hs:(fnd s).2=false):nxt (t::r)=0:=by
 simp only [nxt,h,hs];rfl
theorem open_tok {L d:Int} {t:Tk} {r:List Tk} (h:t.tx=[123]) (hd:d<=64):openP L d (t::r)=.ok () r:=by
 unfold openP;rw [need_tok h];simp only [PR.then_ok];rw [if_neg (by omega)]
theorem ex_back {x:Ex} {L:Int} {n:Nat} {ts r:List Tk} {t:Tk} (hr:rE x 0=true) (h:ts.map Tk.bt=kE x) {s:Bs} (ht:t.tx=s) (hs:(fnd s).2=false) (hn:3*(ts++t::r).length+2<=n) :
 ∃ e,binE fnd L n 1 0 (ts++t::r)=.ok e (t::r)/\sameE x e=true:=by
 obtain ⟨c,e,d,a,b⟩:=(back_ex x).2 L 1 0 n ts (t::r) hr (by omega) (fun hk=>by have:=two_pos (rE_two hr hk);have:=nxt_sg (r:=r) ht hs;omega) h hn
 exact ⟨e,by rw [a];exact binL_halt (by omega) (by omega) (by rw [nxt_sg ht hs];omega),b⟩
def noElse (r:List Tk):Prop:=isT [101,108,115,101] r=false
def StB (x:St):Prop:=∀ (L:Int) (d:Int) (n:Nat) (ts r:List Tk),rS x d=true->noElse r->ts.map Tk.bt=kS x->3*(ts++r).length+2<=n->∃ s,stmtP fnd L n d (ts++r)=.ok s r/\sameS x s=true
def RestB (l:List St):Prop:=∀ (L:Int) (d:Int) (n:Nat) (acc:List St) (ts r:List Tk) (t:Tk),rAll l d=true->ts.map Tk.bt=kSs l->t.bt=sgK [125]->3*(ts++t::r).length+3<=n->∃ ss,restP fnd L n d acc (ts++t::r)=.ok (acc++ss) r/\sameSs l ss=true
theorem nm_yes {n:ByteArray} (h:nmB n true=true):nameB n=true:=h
theorem name_noword {n:ByteArray} (h:nameB n=true):wordL n.data.toList=false:=by
 unfold nameB at h;simp only [Bool.and_eq_true] at h;have:=h.2.2.2.1;rw [wordB_list,Lib.toList_data] at this;simpa using this
theorem kS_head {x:St} {d:Int} (hr:rS x d=true) {ts r:List Tk} (h:ts.map Tk.bt=kS x):noElse (ts++r)/\isT [125] (ts++r)=false:=by
 obtain ⟨k,f,E,y,C,F,I⟩:=x;simp only [rS,Bool.and_eq_true,decide_eq_true_eq] at hr;obtain ⟨j,m,n,z,A,B,D,J,G,H⟩:=hr;have a:∀ (b:Bk) (l:List Bk),ts.map Tk.bt=b::l->b.2.1.data.toList≠[101,108,115,101]->b.2.1.data.toList≠[125]->noElse (ts++r)/\isT [125] (ts++r)=false:=by
  intro b l q g i;obtain ⟨t,v,rfl,s,_⟩:=List.map_eq_cons_iff.1 q;have:t.tx=b.2.1.data.toList:=by rw [<- s];rfl
  refine ⟨?_,?_⟩
  · unfold noElse isT
    simpa [this] using g
  · unfold isT
    simpa [this] using i
 have c:(shp k).1=true->f.data.toList≠[101,108,115,101]/\f.data.toList≠[125]:=fun hs=>by
  rw [hs] at n;have o:=name_noword n;refine ⟨fun e=>by rw [e] at o;revert o;decide,fun e=>?_⟩
  have g:nameB f=true:=n;unfold nameB at g;simp only [Bool.and_eq_true,decide_eq_true_eq] at g;have i:=g.2.2.2.2;have p:f.size=1:=by rw [show f.size=f.data.toList.length by simp,e];rfl
  rw [e,p] at i;revert i;decide
 rcases kind_cases j m with rfl | rfl | rfl | rfl | rfl | rfl | rfl
 · exact a _ _ (by rw [h];simp only [kS];rfl) (c rfl).1 (c rfl).2
 · exact a _ _ (by rw [h];simp only [kS];rfl) (c rfl).1 (c rfl).2
 · exact a _ _ (by rw [h];simp only [kS];rfl) (by decide) (by decide)
 · exact a _ _ (by rw [h];simp only [kS];rfl) (by decide) (by decide)
 · exact a _ _ (by rw [h];simp only [kS];rfl) (by decide) (by decide)
 · exact a _ _ (by rw [h];simp only [kS];rfl) (by decide) (by decide)
 · exact a _ _ (by rw [h];simp only [kS];rfl) (by decide) (by decide)
theorem rest_back {l:List St} (H:∀ x∈l,StB x):RestB l:=by
 induction l with
 | nil =>
   intro L d n c q r t _ h g j;obtain ⟨m,rfl⟩:∃ m,n=m+1:=⟨n-1,by omega⟩
   obtain rfl:q=[]:=by simpa [kSs] using h
   refine ⟨[],?_,by simp [sameSs]⟩
   simp only [List.nil_append,restP,List.append_nil];rw [if_pos (by unfold isT;simp [(bt_tx g).2])]
   rfl
 | cons x l ih =>
   intro L d n c q r t a h g j;obtain ⟨m,rfl⟩:∃ m,n=m+1:=⟨n-1,by omega⟩
   simp only [rAll,Bool.and_eq_true] at a;simp only [kSs] at h;obtain ⟨i,b,rfl,p,f⟩:=List.map_eq_append_iff.1 h;have A:=kS_head a.1 (r:=b++t::r) p
   have k:noElse (b++t::r):=by
    cases l with
    | nil =>
      obtain rfl:b=[]:=by simpa [kSs] using f
      unfold noElse isT;simp [(bt_tx g).2]
    | cons y l =>
      simp only [kSs] at f;obtain ⟨E,I,rfl,v,F⟩:=List.map_eq_append_iff.1 f;simp only [rAll,Bool.and_eq_true] at a;rw [List.append_assoc];exact (kS_head a.2.1 v).1
   obtain ⟨s,o,z⟩:=H x (.head _) L d m i (b++t::r) a.1 k p (by simp at j ⊢;omega)
   have G:1<=i.length:=by
    cases i with
    | nil=>exact absurd o (by
     intro e
     have:=stmtP_short e
     simp at this)
    | cons=>simp
   obtain ⟨C,D,B⟩:=ih (fun y hy=>H y (.tail _ hy)) L d m (c++[s]) b r t a.2 f g (by simp at j ⊢;omega)
   refine ⟨s::C,?_,by simp [sameSs,z,B]⟩
   rw [List.append_assoc];simp only [restP];rw [if_neg (by rw [A.2];decide),o]
   simp only [PR.then_ok];rw [D];simp
end Go.Proofs.YtbgfkdiihnidaaaGreatDoor

import Derived.Test.YtbgfkdiihnidaaaGreatDoorQBB
import Derived.Test.YtbgfkdiihnidaaaGreatDoorQBE
import Derived.Test.YtbgfkdiihnidaaaGreatDoorQBA
import Derived.Deep.RegionHeld3
import Derived.Test.YtbgfkdiihnidaaaGreatDoorQAW
import Derived.OpenShut
import Derived.Test.YtbgfkdiihnidaaaGreatDoorQAV
set_option maxRecDepth 100000
set_option maxHeartbeats 20000000
namespace Go.Proofs.YtbgfkdiihnidaaaGreatDoor
open Go.RowKit
set_option linter.unusedVariables false
set_option maxRecDepth 100000
def RdQ (y:Pg) (W:World) (e:Ending) (w':World):Prop:=∃ b1 d1 b2 d2 b3 d3,e=.returned (.tuple #[.agg #[.slice b1 y.shared.length d1,.slice b2 y.locks.length d2,.slice b3 y.threads.length d3],.int .i64 0,.agg #[.int .i64 0,.int .i64 0]])/\pA w' y (.agg #[.slice b1 y.shared.length d1,.slice b2 y.locks.length d2,.slice b3 y.threads.length d3])/\Below W.heap.size W w'
theorem parse_ofQ {s:ByteArray} {y:Pg} (h:said_P s=(some y,0,0,0)) {W:World} (TW:WTc W):Calls Tryz.prog 5 #[.string s] W (RdQ y W):=by
 refine (p_Parse _ TW.long TW.wtb.pt.1.2).mono fun e w' hh=>?_
 rw [h] at hh;obtain ⟨d,v,rfl,c⟩:=hh;have a:pgR W.heap.size y v w':=c;have b:=pA_of a;obtain ⟨l,k,f,j,i,g,rfl,_⟩:=a;exact ⟨l,k,f,j,i,g,rfl,b,d⟩
theorem said_casesQ (s:ByteArray):(∃ y,said_P s=(some y,0,0,0))\/∃ a b c,a≠0/\said_P s=(none,a,b,c):=by
 unfold said_P wholeR;split
 · exact .inr ⟨_,_,_,by omega,rfl⟩
 · split
   · exact .inr ⟨_,_,_,by omega,rfl⟩
   · generalize endP (progP fnd (s.size : Int) (fuel ((scanX s).1.map Res.tk)) ((scanX s).1.map Res.tk)) = X
     cases X with
     | ok a r=>exact .inl ⟨a,rfl⟩
     | bad p q=>exact .inr ⟨30,p,q,by omega,rfl⟩
structure BxQ (g:Nat) (x:Pg) (r:Array Value) (W:World):Prop where
 own:Own W g 26 r
 tree:pA W x (.agg r)
theorem BxQ.below {W W':World} {g:Nat} {x:Pg} {r:Array Value} (h:BxQ g x r W) (hb:Below W.heap.size W W'):BxQ g x r W':=⟨h.own.below hb,pA_below h.tree hb⟩
structure GdQ (w W:World):Prop where
 tab:WTc W
 bel:Below w.heap.size w W
theorem GdQ.below {w W W':World} (h:GdQ w W) (hb:Below W.heap.size W W'):GdQ w W':=⟨h.tab.below hb,h.bel.trans (hb.mono h.bel.size)⟩
theorem renY_two {x:Pg} {f t:ByteArray} {n:Int} (hr:rP x=true) (h:renY x f t=.inr n):n=2:=by
 unfold renY at h;rw [hr] at h;cases hb:(nameB t && !hasN x t) with
 | true=>rw [hb] at h;cases h
 | false=>rw [hb] at h;cases h;rfl
theorem renY_one {x y:Pg} {f t:ByteArray} (hr:rP x=true) (h:renY x f t=.inl y):nameB t=true/\y=x.ren (gR f t):=by
 unfold renY at h;rw [hr] at h;cases hn:nameB t with
 | false=>rw [hn] at h;cases h
 | true =>
   rw [hn] at h;cases hb:hasN x t with
   | true=>rw [hb] at h;cases h
   | false=>rw [hb] at h;cases h;exact ⟨rfl,rfl⟩
structure T9 (x r z:Pg) (w:World) (a1 a2 a3 s1 s2 s3 u1 u2 u3:Option Addr) (n1 n2 n3 c1 c2 c3 m1 m2 m3 t1 t2 t3 k1 k2 k3 v1 v2 v3 gx gr gz:Nat) (W:World):Prop where
 bx:BxQ gx x #[.slice a1 n1 c1,.slice a2 n2 c2,.slice a3 n3 c3] W
 br:BxQ gr r #[.slice s1 m1 t1,.slice s2 m2 t2,.slice s3 m3 t3] W
 bz:BxQ gz z #[.slice u1 k1 v1,.slice u2 k2 v2,.slice u3 k3 v3] W
 gd:GdQ w W
section
variable {x r z:Pg} {w W W':World} {a1 a2 a3 s1 s2 s3 u1 u2 u3:Option Addr} {n1 n2 n3 c1 c2 c3 m1 m2 m3 t1 t2 t3 k1 k2 k3 v1 v2 v3 gx gr gz:Nat}
theorem T9.below (h:T9 x r z w a1 a2 a3 s1 s2 s3 u1 u2 u3 n1 n2 n3 c1 c2 c3 m1 m2 m3 t1 t2 t3 k1 k2 k3 v1 v2 v3 gx gr gz W) (hb:Below W.heap.size W W'):T9 x r z w a1 a2 a3 s1 s2 s3 u1 u2 u3 n1 n2 n3 c1 c2 c3 m1 m2 m3 t1 t2 t3 k1 k2 k3 v1 v2 v3 gx gr gz W':=⟨h.bx.below hb,h.br.below hb,h.bz.below hb,h.gd.below hb⟩
theorem t9_s (h:T9 x r z w a1 a2 a3 s1 s2 s3 u1 u2 u3 n1 n2 n3 c1 c2 c3 m1 m2 m3 t1 t2 t3 k1 k2 k3 v1 v2 v3 gx gr gz W):(W.cell? ⟨gx,0,none⟩=some (.slice a1 n1 c1)/\W.cell? ⟨gx,1,none⟩=some (.slice a2 n2 c2)/\W.cell? ⟨gx,2,none⟩=some (.slice a3 n3 c3)/\W.cell? ⟨gr,0,none⟩=some (.slice s1 m1 t1)/\W.cell? ⟨gr,1,none⟩=some (.slice s2 m2 t2)/\W.cell? ⟨gr,2,none⟩=some (.slice s3 m3 t3)/\W.cell? ⟨gz,0,none⟩=some (.slice u1 k1 v1)/\W.cell? ⟨gz,1,none⟩=some (.slice u2 k2 v2)/\W.cell? ⟨gz,2,none⟩=some (.slice u3 k3 v3))/\T9 x r z w a1 a2 a3 s1 s2 s3 u1 u2 u3 n1 n2 n3 c1 c2 c3 m1 m2 m3 t1 t2 t3 k1 k2 k3 v1 v2 v3 gx gr gz W :=
 ⟨⟨cr h.bx.own,cr h.bx.own,cr h.bx.own,cr h.br.own,cr h.br.own,cr h.br.own,cr h.bz.own,cr h.bz.own,cr h.bz.own⟩,h⟩
theorem t9_sb (h:(W.cell? ⟨gx,0,none⟩=some (.slice a1 n1 c1)/\W.cell? ⟨gx,1,none⟩=some (.slice a2 n2 c2)/\W.cell? ⟨gx,2,none⟩=some (.slice a3 n3 c3)/\W.cell? ⟨gr,0,none⟩=some (.slice s1 m1 t1)/\W.cell? ⟨gr,1,none⟩=some (.slice s2 m2 t2)/\W.cell? ⟨gr,2,none⟩=some (.slice s3 m3 t3)/\W.cell? ⟨gz,0,none⟩=some (.slice u1 k1 v1)/\W.cell? ⟨gz,1,none⟩=some (.slice u2 k2 v2)/\W.cell? ⟨gz,2,none⟩=some (.slice u3 k3 v3))/\T9 x r z w a1 a2 a3 s1 s2 s3 u1 u2 u3 n1 n2 n3 c1 c2 c3 m1 m2 m3 t1 t2 t3 k1 k2 k3 v1 v2 v3 gx gr gz W) (hb:Below W.heap.size W W'):(W'.cell? ⟨gx,0,none⟩=some (.slice a1 n1 c1)/\W'.cell? ⟨gx,1,none⟩=some (.slice a2 n2 c2)/\W'.cell? ⟨gx,2,none⟩=some (.slice a3 n3 c3)/\W'.cell? ⟨gr,0,none⟩=some (.slice s1 m1 t1)/\W'.cell? ⟨gr,1,none⟩=some (.slice s2 m2 t2)/\W'.cell? ⟨gr,2,none⟩=some (.slice s3 m3 t3)/\W'.cell? ⟨gz,0,none⟩=some (.slice u1 k1 v1)/\W'.cell? ⟨gz,1,none⟩=some (.slice u2 k2 v2)/\W'.cell? ⟨gz,2,none⟩=some (.slice u3 k3 v3))/\T9 x r z w a1 a2 a3 s1 s2 s3 u1 u2 u3 n1 n2 n3 c1 c2 c3 m1 m2 m3 t1 t2 t3 k1 k2 k3 v1 v2 v3 gx gr gz W':=t9_s (h.2.below hb)
theorem t9_drew (h:T9 x r z w a1 a2 a3 s1 s2 s3 u1 u2 u3 n1 n2 n3 c1 c2 c3 m1 m2 m3 t1 t2 t3 k1 k2 k3 v1 v2 v3 gx gr gz W):(W.drew.cell? ⟨gx,0,none⟩=some (.slice a1 n1 c1)/\W.drew.cell? ⟨gx,1,none⟩=some (.slice a2 n2 c2)/\W.drew.cell? ⟨gx,2,none⟩=some (.slice a3 n3 c3)/\W.drew.cell? ⟨gr,0,none⟩=some (.slice s1 m1 t1)/\W.drew.cell? ⟨gr,1,none⟩=some (.slice s2 m2 t2)/\W.drew.cell? ⟨gr,2,none⟩=some (.slice s3 m3 t3)/\W.drew.cell? ⟨gz,0,none⟩=some (.slice u1 k1 v1)/\W.drew.cell? ⟨gz,1,none⟩=some (.slice u2 k2 v2)/\W.drew.cell? ⟨gz,2,none⟩=some (.slice u3 k3 v3))/\T9 x r z w a1 a2 a3 s1 s2 s3 u1 u2 u3 n1 n2 n3 c1 c2 c3 m1 m2 m3 t1 t2 t3 k1 k2 k3 v1 v2 v3 gx gr gz W.drew:=t9_s (h.below (below_drewN (Below.refl _ W) 1))
end
theorem read_walk (s f t:ByteArray) {w:World} (TT:WTc w):Calls Tryz.prog 3 #[.string s,.string f,.string t] w fun e w'=>e=.returned (.bool true)/\Below w.heap.size w w':=by
 have cl:Hid (∀ W,WTc W->Calls Tryz.prog 4 #[] W fun e w'=>e=.returned (.bool true)/\Below W.heap.size W w'):=fun W T=>t_begins W T
 have de:(∃ x,(PrOk x/\rP x=true)/\∀ W,WTc W->Calls Tryz.prog 5 #[.string s] W (RdQ x W))\/∃ a b c,a≠0/\∀ W,WTc W->Calls Tryz.prog 5 #[.string s] W fun e w'=>e=.returned (.tuple #[.agg #[.slice none 0 0,.slice none 0 0,.slice none 0 0],.int .i64 a,.agg #[.int .i64 b,.int .i64 c]])/\Below W.heap.size W w':=by
  rcases said_casesQ s with ⟨x,hx⟩ | ⟨a,b,c,h0,hx⟩
  · exact .inl ⟨x,said_right hx,fun W T=>parse_ofQ hx T⟩
  · refine .inr ⟨a, b, c, h0, fun W T => (p_Parse _ T.long T.wtb.pt.1.2).mono fun e w' hh => ?_⟩
    rw [hx] at hh;obtain ⟨d,v,rfl,hv⟩:=hh;obtain rfl:v=.agg zPg:=hv;exact ⟨rfl,d⟩
 have HT:=Hd TT;have b4:=Hd de;clear TT de;go_enter Tryz.func3,Tryz.ntmps3;go_wp2_with fail;go_at_call 4;refine (cl.out _ HT.out).mono ?_;rintro e w1 ⟨rfl,d⟩;have af:=Hd (GdQ.mk (w:=w) (HT.out.below d) d);clear d HT cl;go_wp2_with fail;go_at_call 5;rcases b4.out with ⟨x,hx,hP⟩ | ⟨a,b,c,ha,hP⟩
 rotate_left
 ·
  refine (hP _ af.out.tab).mono ?_;rintro e j ⟨rfl,d⟩;have an:=Hd (af.out.below d);have q1:(a==0)=false:=by simpa using ha
  have q2:(a != 0)=true:=by simpa using ha
  clear d af ha hP b4;have B1:Below j.heap.size j ((j.alloc (.cells #[.slice none 0 0,.slice none 0 0,.slice none 0 0] 26)).alloc (.cells #[.int .i64 0,.int .i64 0] 29)):=((Below.refl _ j).alloc (Nat.le_refl _) _).alloc (by simp only [World.size_alloc];omega) _
  have O1:=(Own.new j 26 #[.slice none 0 0,.slice none 0 0,.slice none 0 0]).alloc (.cells #[.int .i64 0,.int .i64 0] 29);have O2:=(Own.new (j.alloc (.cells #[.slice none 0 0,.slice none 0 0,.slice none 0 0] 26)) 29 #[.int .i64 0,.int .i64 0]).other (g:=j.heap.size) #[.slice none 0 0,.slice none 0 0,.slice none 0 0] (by simp only [World.size_alloc];omega)
  rw [World.size_alloc] at O2;have G:=Below.of_row (Below.of_row B1 (g:=j.heap.size) (Nat.le_refl _) #[.slice none 0 0,.slice none 0 0,.slice none 0 0]) (g:=j.heap.size+1) (by omega) #[.int .i64 b,.int .i64 c]
  have K1:=(O1.row #[.slice none 0 0,.slice none 0 0,.slice none 0 0]).other (g:=j.heap.size+1) #[.int .i64 b,.int .i64 c] (by omega)
  have m:=Hd (an.out.below G);clear an;obtain ⟨W3,ab⟩:=Qx ((((j.alloc (.cells #[.slice none 0 0,.slice none 0 0,.slice none 0 0] 26)).alloc (.cells #[.int .i64 0,.int .i64 0] 29)).setRow j.heap.size #[.slice none 0 0,.slice none 0 0,.slice none 0 0]).setRow (j.heap.size+1) #[.int .i64 b,.int .i64 c]);rw [<- ab] at K1 m;have ar:=Hd ab;have k:=Hd K1;clear ab B1 G K1;go_upto_region 4 with (first | (refine st rowPg rfl rfl O1 rfl rfl (by rfl) (by rfl) (by kernel_rfl) ?_) | (refine st rowFl rfl rfl O2 rfl rfl (by rfl) (by rfl) (by kernel_rfl) ?_))
  rw [<- ar.out];clear ar O1 O2;have c0:W3.cell? ⟨j.heap.size,0,none⟩=some (.slice none 0 0):=cr k.out;have B:W3.cell? ⟨j.heap.size,1,none⟩=some (.slice none 0 0):=cr k.out;have I:W3.cell? ⟨j.heap.size,2,none⟩=some (.slice none 0 0):=cr k.out;go_wp2_with fail;go_ret;exact ⟨rfl,m.out.bel⟩
 refine (hP _ af.out.tab).mono ?_;rintro e j ⟨C,B,R,I,Q,O,rfl,c9,d⟩;have an:=Hd (af.out.below d);have bo:=Hd c9;have i:=Hd hx;clear d c9 af hx hP b4;obtain ⟨E,dd⟩:=Qx x.shared.length;obtain ⟨J,az⟩:=Qx x.locks.length;obtain ⟨P,cx⟩:=Qx x.threads.length;rw [<- dd,<- az,<- cx] at bo ⊢;clear dd az cx;have B1:Below j.heap.size j ((j.alloc (.cells #[.slice none 0 0,.slice none 0 0,.slice none 0 0] 26)).alloc (.cells #[.int .i64 0,.int .i64 0] 29)):=((Below.refl _ j).alloc (Nat.le_refl _) _).alloc (by simp only [World.size_alloc];omega) _
 have O1:=(Own.new j 26 #[.slice none 0 0,.slice none 0 0,.slice none 0 0]).alloc (.cells #[.int .i64 0,.int .i64 0] 29);have O2:=(Own.new (j.alloc (.cells #[.slice none 0 0,.slice none 0 0,.slice none 0 0] 26)) 29 #[.int .i64 0,.int .i64 0]).other (g:=j.heap.size) #[.slice C E B,.slice R J I,.slice Q P O] (by simp only [World.size_alloc];omega)
 rw [World.size_alloc] at O2;have G:=Below.of_row (Below.of_row B1 (g:=j.heap.size) (Nat.le_refl _) #[.slice C E B,.slice R J I,.slice Q P O]) (g:=j.heap.size+1) (by omega) #[.int .i64 0,.int .i64 0]
 have K1:=(O1.row #[.slice C E B,.slice R J I,.slice Q P O]).other (g:=j.heap.size+1) #[.int .i64 0,.int .i64 0] (by omega)
 have m:=Hd (an.out.below G);have bg:=Hd (pA_below bo.out G);clear an bo;obtain ⟨W3,ab⟩:=Qx ((((j.alloc (.cells #[.slice none 0 0,.slice none 0 0,.slice none 0 0] 26)).alloc (.cells #[.int .i64 0,.int .i64 0] 29)).setRow j.heap.size #[.slice C E B,.slice R J I,.slice Q P O]).setRow (j.heap.size+1) #[.int .i64 0,.int .i64 0]);rw [<- ab] at K1 m bg;have ar:=Hd ab;have k:=Hd K1;clear ab B1 G K1;go_upto_region 4 with (first | (refine st rowPg rfl rfl O1 rfl rfl (by rfl) (by rfl) (by kernel_rfl) ?_) | (refine st rowFl rfl rfl O2 rfl rfl (by rfl) (by rfl) (by kernel_rfl) ?_))
 rw [<- ar.out];clear ar O1 O2;have ae:=Hd (BxQ.mk k.out bg.out);have A:=ae.out.own;clear bg k;go_wp2_with (refine ld rowPg rfl rfl rfl A rfl ?_);clear A;go_at_call 6;by_cases hl:(tP x).length<=65536;rotate_left
 · have hY : mkY (rP x) (tP x) = .inr 4 := by simp [mkY, i.out.2, hl]
   refine (p_Print i.out.1 ae.out.tree m.out.tab.wtb).mono ?_;rw [hY];rintro e w4 ⟨d,rfl⟩;have al:=Hd (m.out.below d);clear d hY hl m ae i;go_wp2_with fail;go_ret;exact ⟨rfl,al.out.bel⟩
 have a8:ctP x<=1048576:=Nat.le_trans (ctP_t i.out.2) (by omega)
 have bc:=fitP_r i.out.2 a8;obtain ⟨tx,ht⟩:=Qx (tP x);have hY:mkY (rP x) (tP x)=.inl tx:=by rw [ht];simp [mkY,i.out.2,hl]
 obtain ⟨y,o,p⟩:=said_P_back i.out.2 i.out.1.2.1 i.out.1.2.2.1 hl;rw [<- ht] at o;have hy:=said_right o;have cb:mkY (rP y) (tP y)=.inl tx:=by rw [<- same_tP p,hy.2,<- i.out.2];exact hY
 obtain ⟨ts,bb⟩:=Qx ((⟨tx.toArray⟩:ByteArray));have ap:Hid (∀ W,WTc W->Calls Tryz.prog 5 #[.string ts] W (RdQ y W)):=fun W T=>by rw [bb];exact parse_ofQ o T
 have aj:Hid (∀ W v,pA W y v->WTc W->Calls Tryz.prog 6 #[v] W fun e w'=>e=.returned (.tuple #[.string ts,.int .i64 0])/\Below W.heap.size W w'):=fun W v h T=>by
  have:=p_Print hy.1 h T.wtb;rw [cb] at this;rw [bb];exact this.mono fun e w' h=>⟨h.2,h.1⟩
 have ax:Hid (∀ W v u,pA W x v->pA W y u->Calls Tryz.prog 7 #[v,u] W fun e w'=>e=.returned (.bool true)/\Below W.heap.size W w'):=fun W v u h1 h2=>by
  have:=p_Same x i.out.1.1 y v u W h1 h2;rw [p] at this;exact this
 have ch:Hid (∀ W v,pA W x v->WTc W->Calls Tryz.prog 6 #[v] W fun e w'=>e=.returned (.tuple #[.string ts,.int .i64 0])/\Below W.heap.size W w'):=fun W v h T=>by
  have:=p_Print i.out.1 h T.wtb;rw [hY] at this;rw [bb];exact this.mono fun e w' h=>⟨h.2,h.1⟩
 have cy:Hid (∀ W v,pA W x v->WTc W->Calls Tryz.prog 8 #[v,.string f,.string t] W (RnZ (renY x f t) W)):=fun W v h T=>p_RenameA x i.out.1 bc a8 f t h T.wtb
 have cm:Hid (∀ W v,pA W x v->Calls Tryz.prog 9 #[v] W fun e w'=>e=.returned (.tuple #[.int .i64 (wrap64 (szTN x.threads)),.int .i64 (wrap64 (szTK x.threads))])/\Below W.heap.size W w'):=fun W v h=>p_Size x i.out.1.1 h
 have bm:dpT x.threads<=1073741824:=by
  have h1:=dpT_ct x.threads;have h2:ctTs x.threads<=1048576:=by have:=a8;unfold ctP at this;omega
  omega
 have dg:Hid (∀ W v,pA W x v->Calls Tryz.prog 10 #[v] W fun e w'=>e=.returned (.int .i64 (dpT x.threads))/\Below W.heap.size W w'):=fun W v h=>p_Deep x i.out.1.1 bm h
 have c5:=Hd bm;refine (ch.out _ _ ae.out.tree m.out.tab).mono ?_;rintro e w4 ⟨rfl,d⟩;have al:=Hd (m.out.below d);have cu:=Hd (ae.out.below d);clear d hY cb hy o p bb ht hl m ae ch a8 bc bm;go_wp2_with fail;go_at_call 5;refine (ap.out _ al.out.tab).mono ?_;rintro e M ⟨b1,d1,b2,d2,b3,d3,rfl,cd,d⟩;have dj:=Hd (al.out.below d);have cq:=Hd (cu.out.below d);have bf:=Hd cd;clear d cd al cu ap;obtain ⟨p1,am⟩:=Qx y.shared.length;obtain ⟨p2,ak⟩:=Qx y.locks.length;obtain ⟨p3,aq⟩:=Qx y.threads.length;rw [<- am,<- ak,<- aq] at bf ⊢;clear am ak aq;have B1:Below M.heap.size M ((M.alloc (.cells #[.slice none 0 0,.slice none 0 0,.slice none 0 0] 26)).alloc (.cells #[.int .i64 0,.int .i64 0] 29)):=((Below.refl _ M).alloc (Nat.le_refl _) _).alloc (by simp only [World.size_alloc];omega) _
 have O1:=(Own.new M 26 #[.slice none 0 0,.slice none 0 0,.slice none 0 0]).alloc (.cells #[.int .i64 0,.int .i64 0] 29);have O2:=(Own.new (M.alloc (.cells #[.slice none 0 0,.slice none 0 0,.slice none 0 0] 26)) 29 #[.int .i64 0,.int .i64 0]).other (g:=M.heap.size) #[.slice b1 p1 d1,.slice b2 p2 d2,.slice b3 p3 d3] (by simp only [World.size_alloc];omega)
 rw [World.size_alloc] at O2;have G:=Below.of_row (Below.of_row B1 (g:=M.heap.size) (Nat.le_refl _) #[.slice b1 p1 d1,.slice b2 p2 d2,.slice b3 p3 d3]) (g:=M.heap.size+1) (by omega) #[.int .i64 0,.int .i64 0]
 have K1:=(O1.row #[.slice b1 p1 d1,.slice b2 p2 d2,.slice b3 p3 d3]).other (g:=M.heap.size+1) #[.int .i64 0,.int .i64 0] (by omega)
 have a0:=Hd (dj.out.below G);have b0:=Hd (cq.out.below G);have bs:=Hd (pA_below bf.out G);clear dj cq bf;obtain ⟨W6,bl⟩:=Qx ((((M.alloc (.cells #[.slice none 0 0,.slice none 0 0,.slice none 0 0] 26)).alloc (.cells #[.int .i64 0,.int .i64 0] 29)).setRow M.heap.size #[.slice b1 p1 d1,.slice b2 p2 d2,.slice b3 p3 d3]).setRow (M.heap.size+1) #[.int .i64 0,.int .i64 0]);rw [<- bl] at K1 a0 b0 bs;have c7:=Hd bl;have k:=Hd K1;clear bl B1 G K1;go_upto_region 10 with (first | (refine st rowPg rfl rfl O1 rfl rfl (by rfl) (by rfl) (by kernel_rfl) ?_) | (refine st rowFl rfl rfl O2 rfl rfl (by rfl) (by rfl) (by kernel_rfl) ?_))
 rw [<- c7.out];clear c7 O1 O2;have a6:=Hd (BxQ.mk k.out bs.out);have k6:=a6.out.own;clear bs k;go_wp2_with (refine ld rowPg rfl rfl rfl k6 rfl ?_);clear k6;go_at_call 6;refine (aj.out _ _ a6.out.tree a0.out.tab).mono ?_;rintro e w7 ⟨rfl,d⟩;have cj:=Hd (a0.out.below d);have ag:=Hd (b0.out.below d);have ao:=Hd (a6.out.below d);clear d a0 b0 a6 aj;have h0:w7.cell? ⟨j.heap.size,0,none⟩=some (.slice C E B):=cr ag.out.own;have h1:w7.cell? ⟨j.heap.size,1,none⟩=some (.slice R J I):=cr ag.out.own;have h2:w7.cell? ⟨j.heap.size,2,none⟩=some (.slice Q P O):=cr ag.out.own;have g0:w7.cell? ⟨M.heap.size,0,none⟩=some (.slice b1 p1 d1):=cr ao.out.own;have g1:w7.cell? ⟨M.heap.size,1,none⟩=some (.slice b2 p2 d2):=cr ao.out.own;have g2:w7.cell? ⟨M.heap.size,2,none⟩=some (.slice b3 p3 d3):=cr ao.out.own;go_wp2_with fail;go_at_call 7;refine (ax.out _ _ _ ag.out.tree ao.out.tree).mono ?_;rintro e w8 ⟨rfl,d⟩;have bw:=Hd (cj.out.below d);have a4:=Hd (ag.out.below d);have k8:=a4.out.own;clear d h0 h1 h2 g0 g1 g2 cj ag ao ax;go_wp2_with (refine ld rowPg rfl rfl rfl k8 rfl ?_);clear k8;go_at_call 8;refine (cy.out _ _ a4.out.tree bw.out.tab).mono ?_;rintro e w9 ⟨o,S,Z,p,m2,K,U,L,Y,z,rfl,d,hq⟩;have df:=Hd (bw.out.below d);have db:=Hd (a4.out.below d);have Z1:=Own.new w9 26 #[.slice none 0 0,.slice none 0 0,.slice none 0 0]
 have B3:=Below.of_row ((Below.refl w9.heap.size w9).alloc (Nat.le_refl _) (.cells #[.slice none 0 0,.slice none 0 0,.slice none 0 0] 26)) (g:=w9.heap.size) (Nat.le_refl _) #[.slice o S Z,.slice p m2 K,.slice U L Y];have F:=Hd (df.out.below B3);have a5:=Hd (db.out.below B3);have ba:=Hd (Z1.row #[.slice o S Z,.slice p m2 K,.slice U L Y]);have ay:Hid (match renY x f t with | .inl y=>z=0/\pA ((w9.alloc (.cells #[.slice none 0 0,.slice none 0 0,.slice none 0 0] 26)).setRow w9.heap.size #[.slice o S Z,.slice p m2 K,.slice U L Y]) y (.agg #[.slice o S Z,.slice p m2 K,.slice U L Y]) | .inr n=>z=n):=by
  cases e:renY x f t with
  | inl y=>rw [e] at hq;exact ⟨hq.1,pA_below (trP_pA hq.2.2.2.2) B3⟩
  | inr n=>rw [e] at hq;exact hq.1
 obtain ⟨Wa,bq⟩:=Qx ((w9.alloc (.cells #[.slice none 0 0,.slice none 0 0,.slice none 0 0] 26)).setRow w9.heap.size #[.slice o S Z,.slice p m2 K,.slice U L Y]);rw [<- bq] at F a5 ba ay;have dl:=Hd bq;clear bq d hq B3 bw a4 df db cy;go_upto_region 14 with (refine st rowPg rfl rfl Z1 rfl rfl (by rfl) (by rfl) (by kernel_rfl) ?_)
 rw [<- dl.out];clear dl Z1;generalize w9.heap.size=gr at ba ⊢;cases hYr:renY x f t with
 | inr n =>
   have h9:=ay.out;rw [hYr] at h9;have az:=renY_two i.out.2 hYr;subst az;subst h9;clear ay hYr;go_wp2_with fail;go_ret;exact ⟨rfl,F.out.bel⟩
 | inl r =>
 have h9:=ay.out;rw [hYr] at h9;obtain ⟨rfl,c4⟩:=h9;obtain ⟨cp,ah⟩:=renY_one i.out.2 hYr;have ad:=Hd (BxQ.mk ba.out c4);have a7:rP r=true:=by rw [ah];exact rP_ren (fun s hs=>gR_name cp hs) (gR_empty f t) i.out.2
 have av:PrOk r:=by rw [ah];exact prOk_ren i.out.1
 have kr:=ad.out.own;clear ay hYr c4 ba;go_wp2_with (refine ld rowPg rfl rfl rfl kr rfl ?_);clear kr;go_at_call 6;by_cases hl:(tP r).length<=65536;rotate_left
 · have hY : mkY (rP r) (tP r) = .inr 4 := by simp [mkY, a7, hl]
   refine (p_Print av ad.out.tree F.out.tab.wtb).mono ?_;rw [hY];rintro e wb ⟨d,rfl⟩;have aw:=Hd (F.out.below d);clear d hY hl F a5 ad;go_wp2_with fail;go_ret;exact ⟨rfl,aw.out.bel⟩
 obtain ⟨tr,ht⟩:=Qx (tP r);have hY:mkY (rP r) (tP r)=.inl tr:=by rw [ht];simp [mkY,a7,hl]
 obtain ⟨q,q1,q2⟩:=said_P_back a7 av.2.1 av.2.2.1 hl;rw [<- ht] at q1;have hq:=said_right q1;have q3:=samePg_sym q2;obtain ⟨e1,e2,e3⟩:=same_sizes q2;have f1:szTN r.threads=szTN x.threads:=by rw [ah];exact szTN_ren _
 have f2:szTK r.threads=szTK x.threads:=by rw [ah];exact szTK_ren _
 have f3:dpT r.threads=dpT x.threads:=by rw [ah];exact dpT_ren _
 obtain ⟨us,bk⟩:=Qx ((⟨tr.toArray⟩:ByteArray));have ap:Hid (∀ W,WTc W->Calls Tryz.prog 5 #[.string us] W (RdQ q W)):=fun W T=>by rw [bk];exact parse_ofQ q1 T
 have aj:Hid (∀ W v,pA W r v->WTc W->Calls Tryz.prog 6 #[v] W fun e w'=>e=.returned (.tuple #[.string us,.int .i64 0])/\Below W.heap.size W w'):=fun W v h T=>by
  have:=p_Print av h T.wtb;rw [hY] at this;rw [bk];exact this.mono fun e w' h=>⟨h.2,h.1⟩
 have ax:Hid (∀ W v u,pA W q v->pA W r u->Calls Tryz.prog 7 #[v,u] W fun e w'=>e=.returned (.bool true)/\Below W.heap.size W w'):=fun W v u h1 h2=>by
  have:=p_Same q hq.1.1 r v u W h1 h2;rw [q3] at this;exact this
 have dc:Hid (∀ W v,pA W q v->Calls Tryz.prog 9 #[v] W fun e w'=>e=.returned (.tuple #[.int .i64 (wrap64 (szTN x.threads)),.int .i64 (wrap64 (szTK x.threads))])/\Below W.heap.size W w'):=fun W v h=>by
  have:=p_Size q hq.1.1 h;rw [<- e1,<- e2,f1,f2] at this;exact this
 have cn:Hid (∀ W v,pA W q v->Calls Tryz.prog 10 #[v] W fun e w'=>e=.returned (.int .i64 (dpT x.threads))/\Below W.heap.size W w'):=fun W v h=>by
  have:=p_Deep q hq.1.1 (by rw [<- e3,f3];exact c5.out) h
  rw [<- e3,f3] at this;exact this
 refine (aj.out _ _ ad.out.tree F.out.tab).mono ?_;rintro e wb ⟨rfl,d⟩;have aw:=Hd (F.out.below d);have b8:=Hd (a5.out.below d);have cv:=Hd (ad.out.below d);clear d hY hl ht bk q1 q2 q3 hq e1 e2 e3 f1 f2 f3 ah a7 av cp F a5 ad aj i c5;go_wp2_with fail;go_at_call 5;refine (ap.out _ aw.out.tab).mono ?_;rintro e wc ⟨u1,D,u2,N,u3,V,rfl,ce,d⟩;have ca:=Hd (aw.out.below d);have co:=Hd (b8.out.below d);have di:=Hd (cv.out.below d);have bu:=Hd ce;clear d ce aw b8 cv ap;obtain ⟨H,am⟩:=Qx q.shared.length;obtain ⟨X,ak⟩:=Qx q.locks.length;obtain ⟨A,aq⟩:=Qx q.threads.length;rw [<- am,<- ak,<- aq] at bu ⊢;clear am ak aq;have B1:Below wc.heap.size wc ((wc.alloc (.cells #[.slice none 0 0,.slice none 0 0,.slice none 0 0] 26)).alloc (.cells #[.int .i64 0,.int .i64 0] 29)):=((Below.refl _ wc).alloc (Nat.le_refl _) _).alloc (by simp only [World.size_alloc];omega) _
 have O1:=(Own.new wc 26 #[.slice none 0 0,.slice none 0 0,.slice none 0 0]).alloc (.cells #[.int .i64 0,.int .i64 0] 29);have O2:=(Own.new (wc.alloc (.cells #[.slice none 0 0,.slice none 0 0,.slice none 0 0] 26)) 29 #[.int .i64 0,.int .i64 0]).other (g:=wc.heap.size) #[.slice u1 H D,.slice u2 X N,.slice u3 A V] (by simp only [World.size_alloc];omega)
 rw [World.size_alloc] at O2;have G:=Below.of_row (Below.of_row B1 (g:=wc.heap.size) (Nat.le_refl _) #[.slice u1 H D,.slice u2 X N,.slice u3 A V]) (g:=wc.heap.size+1) (by omega) #[.int .i64 0,.int .i64 0]
 have K1:=(O1.row #[.slice u1 H D,.slice u2 X N,.slice u3 A V]).other (g:=wc.heap.size+1) #[.int .i64 0,.int .i64 0] (by omega)
 have bi:=Hd (ca.out.below G);have bj:=Hd (co.out.below G);have bd:=Hd (di.out.below G);have bp:=Hd (pA_below bu.out G);clear ca co di bu;obtain ⟨We,bh⟩:=Qx ((((wc.alloc (.cells #[.slice none 0 0,.slice none 0 0,.slice none 0 0] 26)).alloc (.cells #[.int .i64 0,.int .i64 0] 29)).setRow wc.heap.size #[.slice u1 H D,.slice u2 X N,.slice u3 A V]).setRow (wc.heap.size+1) #[.int .i64 0,.int .i64 0]);rw [<- bh] at K1 bi bj bd bp;have ct:=Hd bh;have k:=Hd K1;clear bh B1 G K1;go_upto_region 20 with (first | (refine st rowPg rfl rfl O1 rfl rfl (by rfl) (by rfl) (by kernel_rfl) ?_) | (refine st rowFl rfl rfl O2 rfl rfl (by rfl) (by rfl) (by kernel_rfl) ?_))
 rw [<- ct.out];clear ct O1 O2;have l:Hid (T9 x r q w C R Q o p U u1 u2 u3 E J P B I O S m2 L Z K Y H X A D N V j.heap.size gr wc.heap.size We):=⟨bj.out,bd.out,BxQ.mk k.out bp.out,bi.out⟩;clear k bp bj bd bi;generalize j.heap.size=gx at l ⊢;generalize wc.heap.size=gz at l ⊢;have kx:=l.out.bx.own;go_wp2_with (refine ld rowPg rfl rfl rfl kx rfl ?_);clear kx;go_at_call 9;refine (cm.out _ _ l.out.bx.tree).mono ?_;rintro e wf ⟨rfl,d⟩;replace l:=Hd (l.out.below d);have kz:=l.out.bz.own;clear d;go_wp2_with (refine ld rowPg rfl rfl rfl kz rfl ?_);clear kz;go_at_call 9;refine (dc.out _ _ l.out.bz.tree).mono ?_;rintro e wg ⟨rfl,d⟩;replace l:=Hd (l.out.below d);clear d cm dc;obtain ⟨sa,cc⟩:=Qx (wrap64 (szTN x.threads));obtain ⟨sb,cz⟩:=Qx (wrap64 (szTK x.threads));obtain ⟨sd,be⟩:=Qx (dpT x.threads);rw [<- cc,<- cz];have qa:(sa==sa)=true:=by simp
 have qb:(sb==sb)=true:=by simp
 have qd:(sd==sd)=true:=by simp
 have H1:Hid (∀ W,((W.cell? ⟨gx,0,none⟩=some (.slice C E B)/\W.cell? ⟨gx,1,none⟩=some (.slice R J I)/\W.cell? ⟨gx,2,none⟩=some (.slice Q P O)/\W.cell? ⟨gr,0,none⟩=some (.slice o S Z)/\W.cell? ⟨gr,1,none⟩=some (.slice p m2 K)/\W.cell? ⟨gr,2,none⟩=some (.slice U L Y)/\W.cell? ⟨gz,0,none⟩=some (.slice u1 H D)/\W.cell? ⟨gz,1,none⟩=some (.slice u2 X N)/\W.cell? ⟨gz,2,none⟩=some (.slice u3 A V))/\T9 x r q w C R Q o p U u1 u2 u3 E J P B I O S m2 L Z K Y H X A D N V gx gr gz W)->Calls Tryz.prog 7 #[.agg #[.slice u1 H D,.slice u2 X N,.slice u3 A V],.agg #[.slice o S Z,.slice p m2 K,.slice U L Y]] W fun e w'=>e=.returned (.bool true)/\Below W.heap.size W w'):=fun W h=>ax.out W _ _ h.2.bz.tree h.2.br.tree
 have H2:Hid (∀ W,((W.cell? ⟨gx,0,none⟩=some (.slice C E B)/\W.cell? ⟨gx,1,none⟩=some (.slice R J I)/\W.cell? ⟨gx,2,none⟩=some (.slice Q P O)/\W.cell? ⟨gr,0,none⟩=some (.slice o S Z)/\W.cell? ⟨gr,1,none⟩=some (.slice p m2 K)/\W.cell? ⟨gr,2,none⟩=some (.slice U L Y)/\W.cell? ⟨gz,0,none⟩=some (.slice u1 H D)/\W.cell? ⟨gz,1,none⟩=some (.slice u2 X N)/\W.cell? ⟨gz,2,none⟩=some (.slice u3 A V))/\T9 x r q w C R Q o p U u1 u2 u3 E J P B I O S m2 L Z K Y H X A D N V gx gr gz W)->Calls Tryz.prog 10 #[.agg #[.slice C E B,.slice R J I,.slice Q P O]] W fun e w'=>e=.returned (.int .i64 sd)/\Below W.heap.size W w'):=fun W h=>by rw [be];exact dg.out W _ h.2.bx.tree
 have H3:Hid (∀ W,((W.cell? ⟨gx,0,none⟩=some (.slice C E B)/\W.cell? ⟨gx,1,none⟩=some (.slice R J I)/\W.cell? ⟨gx,2,none⟩=some (.slice Q P O)/\W.cell? ⟨gr,0,none⟩=some (.slice o S Z)/\W.cell? ⟨gr,1,none⟩=some (.slice p m2 K)/\W.cell? ⟨gr,2,none⟩=some (.slice U L Y)/\W.cell? ⟨gz,0,none⟩=some (.slice u1 H D)/\W.cell? ⟨gz,1,none⟩=some (.slice u2 X N)/\W.cell? ⟨gz,2,none⟩=some (.slice u3 A V))/\T9 x r q w C R Q o p U u1 u2 u3 E J P B I O S m2 L Z K Y H X A D N V gx gr gz W)->Calls Tryz.prog 10 #[.agg #[.slice u1 H D,.slice u2 X N,.slice u3 A V]] W fun e w'=>e=.returned (.int .i64 sd)/\Below W.heap.size W w'):=fun W h=>by rw [be];exact cn.out W _ h.2.bz.tree
 clear cc cz be ax dg cn;go_upto_region 22 with (fail)
 go_region_held3 (fun W=>(W.cell? ⟨gx,0,none⟩=some (.slice C E B)/\W.cell? ⟨gx,1,none⟩=some (.slice R J I)/\W.cell? ⟨gx,2,none⟩=some (.slice Q P O)/\W.cell? ⟨gr,0,none⟩=some (.slice o S Z)/\W.cell? ⟨gr,1,none⟩=some (.slice p m2 K)/\W.cell? ⟨gr,2,none⟩=some (.slice U L Y)/\W.cell? ⟨gz,0,none⟩=some (.slice u1 H D)/\W.cell? ⟨gz,1,none⟩=some (.slice u2 X N)/\W.cell? ⟨gz,2,none⟩=some (.slice u3 A V))/\T9 x r q w C R Q o p U u1 u2 u3 E J P B I O S m2 L Z K Y H X A D N V gx gr gz W) (first | exact t9_drew l.out | exact t9_sb (by assumption) (by assumption)) (first
  | (go_at_call 7
     refine (H1.out _ (by assumption)).mono ?_
     rintro e wh ⟨rfl,d⟩)
  | (go_at_call_of 10 (Value.slice C E B)
     refine (H2.out _ (by assumption)).mono ?_
     rintro e wi ⟨rfl,d⟩)
  | (go_at_call_of 10 (Value.slice u1 H D)
     refine (H3.out _ (by assumption)).mono ?_
     rintro e wj ⟨rfl,d⟩))
 have HF:=Hd (GdQ.bel (T9.gd (And.right (by assumption:_/\T9 x r q w C R Q o p U u1 u2 u3 E J P B I O S m2 L Z K Y H X A D N V gx gr gz _))))
 go_wp2_with fail;go_ret;exact ⟨rfl,HF.out⟩
open Go.ChangeShapes Go.WideShapes Go.ChangeAt Go.WideMaps Go.WideElems Go.RowKit
set_option linter.unusedVariables false
section
variable {H:Type} {enc:TypeId × Value->H} {W:World} {sp:Nat->Bool} {held:Bool}
theorem open_shape {n:Nat} {cs:List Value} {y:DataW H × List MemPlace} (h:DataW.trod enc Tryz.prog W 0 sp held n 197 cs=some y) :
 ∃ a b c d e,cs=[.bool a,.bool b,.int .i64 c,.bool d,.bool e]/\y.1=.agg [.lit (.bool a),.lit (.bool b),.lit (.int .i64 c),.lit (.bool d),.lit (.bool e)]:=by
 obtain ⟨m,V,_,F,B,G,f⟩:=open_fieldsM (ks:=[(0,1,some .bool),(1,1,some .bool),(2,1,some (.int .i64)),(3,1,some .bool),(4,1,some .bool)]) Tryz.underlying197 (by kernel_rfl) (by decide) (by kernel_rfl) h
 obtain ⟨v0,t0,z0,A,j,u0,w0⟩:=f 0 _ rfl;obtain ⟨v1,t1,z1,l,z,u1,I⟩:=f 1 _ rfl;obtain ⟨v2,t2,z2,k,o,u2,C⟩:=f 2 _ rfl;obtain ⟨v3,t3,z3,i,x,u3,Q⟩:=f 3 _ rfl;obtain ⟨v4,t4,z4,g,v,u4,M⟩:=f 4 _ rfl;obtain ⟨S,U,Z⟩:=DataW.trod_bool u0 w0;obtain ⟨X,J,E⟩:=DataW.trod_bool u1 I;obtain ⟨L,N,D,_⟩:=DataW.trod_int u2 C;obtain ⟨R,P,O⟩:=DataW.trod_bool u3 Q;obtain ⟨K,T,Y⟩:=DataW.trod_bool u4 M;obtain rfl:=(List.cons.inj U).1;obtain rfl:=(List.cons.inj J).1;obtain rfl:=(List.cons.inj N).1;obtain rfl:=(List.cons.inj P).1;obtain rfl:=(List.cons.inj T).1;refine ⟨S,X,L,R,K,?_,?_⟩
 · match cs, F, A, l, k, i, g with
   | [p, q, r, s, t], _, A, l, k, i, g =>
     simp at A l k i g;simp [A,l,k,i,g]
 · rw [G]
   match V,B,j,z,o,x,v with
   | [p, q, r, s, t], _, j, z, o, x, v =>
     simp at j z o x v;simp [j,z,o,x,v,Z,E,D,O,Y]
end
theorem gSh:Tryz.prog.globalNamed "stile/pretty.shapes" = some 2:=by kernel_rfl
theorem tSh:(Tryz.prog.globals[2]?).map (·.type)=some 198:=by kernel_rfl
theorem tPow4:(Tryz.prog.globals[3]?).map (·.type)=some 223:=by kernel_rfl
theorem cellsSh:Tryz.prog.cellsOf 197=5:=by kernel_rfl
theorem ptab_of_vars {W:World} {L:List (String × DataW Unit)} {ps:List MemPlace} (h:DataW.LaidVars Tryz.prog W L ps) (h1:("stile/pretty.shapes",Rows.laid_stile_pretty_shapes)∈L):PTab W:=by
 obtain ⟨O,P,N,K,C⟩:=laid_var gSh tSh h h1;obtain ⟨s,m,_,F,M,A,q⟩:=DataW.trod_array Tryz.underlying198 C;have g:=(congrArg Prod.fst F).symm;simp only at g;unfold Rows.laid_stile_pretty_shapes at g;have g:=DataW.agg.inj g;rw [cellsSh] at q
 have f:∀ (i:Nat) (a b d e:Bool) (c:Int),i<8->(s.map (·.1))[i]? = some (DataW.agg [.lit (.bool a),.lit (.bool b),.lit (.int .i64 c),.lit (.bool d),.lit (.bool e)]) ->
  W.cell? ⟨2,i*5,none⟩=some (.bool a)/\W.cell? ⟨2,i*5+1,none⟩=some (.bool b)/\W.cell? ⟨2,i*5+2,none⟩=some (.int .i64 c)/\W.cell? ⟨2,i*5+3,none⟩=some (.bool d)/\W.cell? ⟨2,i*5+4,none⟩=some (.bool e):=by
  intro i a b d e c J p;have n:i<s.length:=by omega
  have r:=q i J;rw [List.getElem?_eq_getElem n] at r;obtain ⟨E,t,x,G,B,H,D⟩:=open_shape r;rw [List.getElem?_map,List.getElem?_eq_getElem n,Option.map_some,D] at p;simp at p;obtain ⟨rfl,rfl,rfl,rfl,rfl⟩:=p;have l:∀ (j:Nat) (v:Value),[Value.bool E,.bool t,.int .i64 x,.bool G,.bool B][j]? = some v->W.cell? ⟨2,i*5+j,none⟩=some v:=by
   intro j v o;have z:j<5:=(List.getElem?_eq_some_iff.1 o).1;rw [World.var?_cell gSh K (i*5+j),<- Array.getElem?_toList];rw [<- H,List.getElem?_take,if_pos z,List.getElem?_drop] at o;exact o
  exact ⟨l 0 _ rfl,l 1 _ rfl,l 2 _ rfl,l 3 _ rfl,l 4 _ rfl⟩
 rw [g] at f;have y:=(f 0 false false false false 0 (by omega) rfl).1
 refine ⟨by have:=lt_of_at y;exact this,fun k h0 h8=>?_⟩
 have I:k=0\/k=1\/k=2\/k=3\/k=4\/k=5\/k=6\/k=7:=by omega
 rcases I with rfl | rfl | rfl | rfl | rfl | rfl | rfl | rfl
 · exact f 0 _ _ _ _ _ (by omega) rfl
 · exact f 1 _ _ _ _ _ (by omega) rfl
 · exact f 2 _ _ _ _ _ (by omega) rfl
 · exact f 3 _ _ _ _ _ (by omega) rfl
 · exact f 4 _ _ _ _ _ (by omega) rfl
 · exact f 5 _ _ _ _ _ (by omega) rfl
 · exact f 6 _ _ _ _ _ (by omega) rfl
 · exact f 7 _ _ _ _ _ (by omega) rfl
theorem wtb_of_vars {W:World} {L:List (String × DataW Unit)} {ps:List MemPlace} (h:DataW.LaidVars Tryz.prog W L ps) (h1:("stile/pretty.shapes",Rows.laid_stile_pretty_shapes)∈L) (h2:("internal/strconv.uint64pow10",Rows.laid_internal_strconv_uint64pow10)∈L) (h3:LNm W/\Tabs W):WTb W:=by
 obtain ⟨f,g,i,b,d⟩:=laid_var gPow tPow4 h h2;have a:=Lib.cells_of_tab (k:=.u64) (zs:=Lib.pow10Tab) Tryz.underlying223 Tryz.underlying184 (by kernel_rfl) (by kernel_rfl) d
 have c:=lt_of_at (v:=.int .u64 1) (by rw [World.var?_cell gPow b 0,<- Array.getElem?_toList,a];rfl)
 refine ⟨⟨h3,ptab_of_vars h h1⟩,?_,c⟩;unfold Lib.TabIs;rw [b,<- a]
open Go.ChangeShapes Go.WideShapes Go.ChangeAt Go.WideMaps Go.WideElems Go.RowKit
set_option linter.unusedVariables false
abbrev PLB:List (String × DataW Unit):=[("math/bits.deBruijn32tab",Rows.laid_math_bits_deBruijn32tab),("math/bits.deBruijn64tab",Rows.laid_math_bits_deBruijn64tab),("internal/strconv.uint64pow10",Rows.laid_internal_strconv_uint64pow10),("stile/words.levels",Rows.laid_stile_words_levels),("stile/words.signs",Rows.laid_stile_words_signs),("stile/lexer.languageWords",Rows.laid_stile_lexer_languageWords),("stile/lexer.longSigns",Rows.laid_stile_lexer_longSigns),("stile/pretty.shapes",Rows.laid_stile_pretty_shapes)]
theorem wtb_of_laid {W:World} (h:laidMetH Tryz.prog PLB W):WTc W:=by
 rw [MakeChecks.laidMetH_plain _ _ _ (by kernel_rfl)] at h
 obtain ⟨a,h,_⟩:=h;exact ⟨wtb_of_vars h (by simp) (by simp) ⟨lnm_of_vars h (by simp),tabs_of_vars h (by simp) (by simp)⟩,ltabs_of_vars h (by simp) (by simp)⟩
theorem bdoor_met (os:Os) (args:Array Value):laidMetH Tryz.prog PLB ((World.doorLaid Tryz.prog 400 os).forCall (fun _ _=>0) ⟨#[],args,[]⟩).memory :=
 laidMetH_of_parts3 (fuel:=8) (laidMet_of_run' 8 (by kernel_rfl) (by kernel_rfl)) (by kernel_rfl) (by kernel_rfl)
end Go.Proofs.YtbgfkdiihnidaaaGreatDoor

/- The proof, part 33: texts that belong together, in one. -/
import Derived.Test.YtkheldgmpgefiaaGreatDoorWBF
import Derived.Deep.RegionHeld3
set_option maxRecDepth 100000
set_option maxHeartbeats 20000000
namespace Go.Proofs.YtkheldgmpgefiaaGreatDoor
open Go.RowKit
set_option linter.unusedVariables false
def CoP (y:Pg) (X:World) (e:Ending) (w':World):Prop:=∃ s1 m1 t1 s2 m2 t2 s3 m3 t3,e=.returned (.agg #[.slice s1 m1 t1,.slice s2 m2 t2,.slice s3 m3 t3])∧Below X.heap.size X w'∧(∀ hi,hi≤X.heap.size→TrH hi w' y (.agg #[.slice s1 m1 t1,.slice s2 m2 t2,.slice s3 m3 t3]))∧Gv y X.heap.size w'.heap.size w' (.agg #[.slice s1 m1 t1,.slice s2 m2 t2,.slice s3 m3 t3])
theorem o_copy (y:Pg) (hy:ctP y≤1048576) {v:Value} {X:World} (h:pA X y v):Calls Tryz.prog 14 #[v] X (CoP y X) :=
 (r_Copy y hy h).mono fun e w' ⟨s1,t1,s2,t2,s3,t3,h0,h1,h2,h3,hb⟩=>⟨s1,_,t1,s2,_,t2,s3,_,t3,h0,hb,fun hi hh=>trH_of hh h1 h2 h3,gv_of h1 h2 h3⟩
def StP (y:Pg) (X:World) (e:Ending) (w':World):Prop:=∃ s1 m1 t1 s2 m2 t2 s3 m3 t3,e=.returned (.agg #[.slice s1 m1 t1,.slice s2 m2 t2,.slice s3 m3 t3])∧Below X.heap.size X w'∧∀ hi,hi≤X.heap.size→TrH hi w' y (.agg #[.slice s1 m1 t1,.slice s2 m2 t2,.slice s3 m3 t3])
theorem o_strip (x:Pg) (hf:fitP x) (hok:okP x) {v:Value} {X:World} (h:pA X x v):Calls Tryz.prog 15 #[v] X (StP x.bare X) :=
 (p_Strip x hf hok h).mono fun e w' ⟨s1,t1,s2,t2,s3,t3,h0,h1,h2,h3,hb⟩=>⟨s1,x.bare.shared.length,t1,s2,x.bare.locks.length,t2,s3,x.bare.threads.length,t3,by rw [h0];simp [Pg.bare],hb,fun hi hh=>trH_of hh h1 h2 h3⟩
def ReP (X:World) (e:Ending) (w':World):Prop:=∃ s1 m1 t1 s2 m2 t2 s3 m3 t3 z,e=.returned (.tuple #[.agg #[.slice s1 m1 t1,.slice s2 m2 t2,.slice s3 m3 t3],.int .i64 z])∧Below X.heap.size X w'∧(z=0∨(z≠0∧m3=0))∧∃ y,ctP y≤1048576∧okP y∧∀ hi,hi≤X.heap.size→TrH hi w' y (.agg #[.slice s1 m1 t1,.slice s2 m2 t2,.slice s3 m3 t3])
theorem o_rename (x:Pg) (okx:PrOk x) (hf:fitP x) (hb:ctP x≤1048576) (f t:ByteArray) (ht:nmOk t) {v:Value} {X:World} (h:pA X x v) (TT:WTb X):Calls Tryz.prog 6 #[v,.string f,.string t] X (ReP X) :=
 (p_RenameZ x okx hf hb f t ht h TT).mono fun e w' ⟨s1,n1,t1,s2,n2,t2,s3,n3,t3,z,h0,hbw,hq⟩=>by
  refine ⟨s1,n1,t1,s2,n2,t2,s3,n3,t3,z,h0,hbw,?_⟩
  cases hY:renY x f t with
  | inl y =>
    rw [hY] at hq
    obtain ⟨hz,rfl,rfl,rfl,u1,v1,u2,v2,u3,v3,he,k1,k2,k3⟩:=hq
    have e1:y=x.ren (gR f t):=(renY_inl hY).2.2.2
    refine ⟨.inl hz,y,by rw [e1,ctP_ren];exact hb,by rw [e1];exact okP_ren okx.1,fun hi hh=>?_⟩
    rw [he]
    exact trH_of hh k1 k2 k3
  | inr n =>
    rw [hY] at hq
    obtain ⟨hz,rfl,rfl,rfl⟩:=hq
    refine ⟨.inr ⟨by rw [hz];rcases renY_inr hY with rfl | rfl <;> decide,rfl⟩,⟨[],[],[]⟩,by decide,⟨by decide,by decide,by decide,fun t ht=>by cases ht⟩,fun hi hh=>⟨s1,t1,s2,t2,s3,t3,rfl,.inl rfl,.inl rfl,.inl rfl⟩⟩
def NaP (x:Pg) (X:World) (e:Ending) (w':World):Prop:=∃ a l c,e=.returned (.slice a l.length c)∧NL (nmP x) l∧l.length≤2097152∧(∃ base,strsAt base w' l a)∧Below X.heap.size X w'
theorem o_names (x y:Pg) (hxy:nmP y=nmP x) (hf:fitP y) (hok:okP y) (hb:ctP y≤1048576) {v:Value} {X:World} (h:pA X y v):Calls Tryz.prog 9 #[v] X (NaP x X) :=
 (p_Names y hf hok hb h).mono fun e w' ⟨a,l,c,h0,h1,h2,_,h3,h4⟩=>⟨a,l,c,h0,hxy ▸ h1,h2,⟨_,h3⟩,h4⟩
theorem o_spoil (x:Pg) (hb:ctP x≤1048576) {lo hi:Nat} {X:World} {v:Value} (h:Gv x lo hi X v) (hlo:lo≤hi) (hhi:hi≤X.heap.size):Calls Tryz.prog 16 #[v] X (SplP lo hi X):=by
 obtain ⟨s1,t1,s2,t2,s3,t3,rfl,h1,_,h3⟩:=h
 exact r_spoil x hb hlo hhi h1 h3
structure Om (x y:Pg) (w:World) (hi mb kb bb pb gb:Nat) (p1 p2 p3 k1 k2 k3 b1 b2 b3 m1 m2 m3 g1 g2 g3 a1 a2 a3:Option Addr) (pm1 pt1 pm2 pt2 pm3 pt3 km1 kt1 km2 kt2 km3 kt3 bm1 bt1 bm2 bt2 bm3 bt3 mm1 mt1 mm2 mt2 mm3 mt3 gm1 gt1 gm2 gt2 gm3 gt3 n1 c1 n2 c2 n3 c3:Nat) (X:World):Prop where
 bx:Bxs w [(mb,#[.slice m1 mm1 mt1,.slice m2 mm2 mt2,.slice m3 mm3 mt3]),(kb,#[.slice k1 km1 kt1,.slice k2 km2 kt2,.slice k3 km3 kt3]),(bb,#[.slice b1 bm1 bt1,.slice b2 bm2 bt2,.slice b3 bm3 bt3]),(pb,#[.slice p1 pm1 pt1,.slice p2 pm2 pt2,.slice p3 pm3 pt3]),(gb,#[.slice g1 gm1 gt1,.slice g2 gm2 gt2,.slice g3 gm3 gt3]),(w.heap.size,#[.slice a1 n1 c1,.slice a2 n2 c2,.slice a3 n3 c3])] X
 t0:pA X x (.agg #[.slice a1 n1 c1,.slice a2 n2 c2,.slice a3 n3 c3])
 ta:TrH hi X x.bare (.agg #[.slice p1 pm1 pt1,.slice p2 pm2 pt2,.slice p3 pm3 pt3])
 tk:TrH hi X x.bare (.agg #[.slice k1 km1 kt1,.slice k2 km2 kt2,.slice k3 km3 kt3])
 tb:TrH hi X y (.agg #[.slice b1 bm1 bt1,.slice b2 bm2 bt2,.slice b3 bm3 bt3])
 tm:TrH hi X y (.agg #[.slice m1 mm1 mt1,.slice m2 mm2 mt2,.slice m3 mm3 mt3])
def Oc (x y:Pg) (w:World) (hi mb kb bb pb gb:Nat) (p1 p2 p3 k1 k2 k3 b1 b2 b3 m1 m2 m3 g1 g2 g3 a1 a2 a3:Option Addr) (pm1 pt1 pm2 pt2 pm3 pt3 km1 kt1 km2 kt2 km3 kt3 bm1 bt1 bm2 bt2 bm3 bt3 mm1 mt1 mm2 mt2 mm3 mt3 gm1 gt1 gm2 gt2 gm3 gt3 n1 c1 n2 c2 n3 c3:Nat) (X:World):Prop:=X.cell? ⟨mb,0,none⟩=some (.slice m1 mm1 mt1)∧X.cell? ⟨mb,1,none⟩=some (.slice m2 mm2 mt2)∧X.cell? ⟨mb,2,none⟩=some (.slice m3 mm3 mt3)∧X.cell? ⟨kb,0,none⟩=some (.slice k1 km1 kt1)∧X.cell? ⟨kb,1,none⟩=some (.slice k2 km2 kt2)∧X.cell? ⟨kb,2,none⟩=some (.slice k3 km3 kt3)∧X.cell? ⟨bb,0,none⟩=some (.slice b1 bm1 bt1)∧X.cell? ⟨bb,1,none⟩=some (.slice b2 bm2 bt2)∧X.cell? ⟨bb,2,none⟩=some (.slice b3 bm3 bt3)∧X.cell? ⟨pb,0,none⟩=some (.slice p1 pm1 pt1)∧X.cell? ⟨pb,1,none⟩=some (.slice p2 pm2 pt2)∧X.cell? ⟨pb,2,none⟩=some (.slice p3 pm3 pt3)∧X.cell? ⟨w.heap.size,0,none⟩=some (.slice a1 n1 c1)∧X.cell? ⟨w.heap.size,1,none⟩=some (.slice a2 n2 c2)∧X.cell? ⟨w.heap.size,2,none⟩=some (.slice a3 n3 c3)∧Om x y w hi mb kb bb pb gb p1 p2 p3 k1 k2 k3 b1 b2 b3 m1 m2 m3 g1 g2 g3 a1 a2 a3 pm1 pt1 pm2 pt2 pm3 pt3 km1 kt1 km2 kt2 km3 kt3 bm1 bt1 bm2 bt2 bm3 bt3 mm1 mt1 mm2 mt2 mm3 mt3 gm1 gt1 gm2 gt2 gm3 gt3 n1 c1 n2 c2 n3 c3 X
section
variable {x y:Pg} {w X Y:World} {hi mb kb bb pb gb:Nat} {p1 p2 p3 k1 k2 k3 b1 b2 b3 m1 m2 m3 g1 g2 g3 a1 a2 a3:Option Addr} {pm1 pt1 pm2 pt2 pm3 pt3 km1 kt1 km2 kt2 km3 kt3 bm1 bt1 bm2 bt2 bm3 bt3 mm1 mt1 mm2 mt2 mm3 mt3 gm1 gt1 gm2 gt2 gm3 gt3 n1 c1 n2 c2 n3 c3:Nat}
theorem Om.below (h:Om x y w hi mb kb bb pb gb p1 p2 p3 k1 k2 k3 b1 b2 b3 m1 m2 m3 g1 g2 g3 a1 a2 a3 pm1 pt1 pm2 pt2 pm3 pt3 km1 kt1 km2 kt2 km3 kt3 bm1 bt1 bm2 bt2 bm3 bt3 mm1 mt1 mm2 mt2 mm3 mt3 gm1 gt1 gm2 gt2 gm3 gt3 n1 c1 n2 c2 n3 c3 X) (hb:Below X.heap.size X Y):Om x y w hi mb kb bb pb gb p1 p2 p3 k1 k2 k3 b1 b2 b3 m1 m2 m3 g1 g2 g3 a1 a2 a3 pm1 pt1 pm2 pt2 pm3 pt3 km1 kt1 km2 kt2 km3 kt3 bm1 bt1 bm2 bt2 bm3 bt3 mm1 mt1 mm2 mt2 mm3 mt3 gm1 gt1 gm2 gt2 gm3 gt3 n1 c1 n2 c2 n3 c3 Y:=⟨h.bx.below hb,pA_below h.t0 hb,trH_below h.ta hb,trH_below h.tk hb,trH_below h.tb hb,trH_below h.tm hb⟩
theorem oc_of (h:Om x y w hi mb kb bb pb gb p1 p2 p3 k1 k2 k3 b1 b2 b3 m1 m2 m3 g1 g2 g3 a1 a2 a3 pm1 pt1 pm2 pt2 pm3 pt3 km1 kt1 km2 kt2 km3 kt3 bm1 bt1 bm2 bt2 bm3 bt3 mm1 mt1 mm2 mt2 mm3 mt3 gm1 gt1 gm2 gt2 gm3 gt3 n1 c1 n2 c2 n3 c3 X):Oc x y w hi mb kb bb pb gb p1 p2 p3 k1 k2 k3 b1 b2 b3 m1 m2 m3 g1 g2 g3 a1 a2 a3 pm1 pt1 pm2 pt2 pm3 pt3 km1 kt1 km2 kt2 km3 kt3 bm1 bt1 bm2 bt2 bm3 bt3 mm1 mt1 mm2 mt2 mm3 mt3 gm1 gt1 gm2 gt2 gm3 gt3 n1 c1 n2 c2 n3 c3 X:=by
 have om:=h.bx.own (mb,#[.slice m1 mm1 mt1,.slice m2 mm2 mt2,.slice m3 mm3 mt3]) (by simp)
 have ok:=h.bx.own (kb,#[.slice k1 km1 kt1,.slice k2 km2 kt2,.slice k3 km3 kt3]) (by simp)
 have ob:=h.bx.own (bb,#[.slice b1 bm1 bt1,.slice b2 bm2 bt2,.slice b3 bm3 bt3]) (by simp)
 have oa:=h.bx.own (pb,#[.slice p1 pm1 pt1,.slice p2 pm2 pt2,.slice p3 pm3 pt3]) (by simp)
 have op:=h.bx.own (w.heap.size,#[.slice a1 n1 c1,.slice a2 n2 c2,.slice a3 n3 c3]) (by simp)
 simp only at om ok ob oa op
 exact ⟨by rw [cell_of_row _ _ 0 _ _ _ om];rfl,by rw [cell_of_row _ _ 1 _ _ _ om];rfl,by rw [cell_of_row _ _ 2 _ _ _ om];rfl,by rw [cell_of_row _ _ 0 _ _ _ ok];rfl,by rw [cell_of_row _ _ 1 _ _ _ ok];rfl,by rw [cell_of_row _ _ 2 _ _ _ ok];rfl,by rw [cell_of_row _ _ 0 _ _ _ ob];rfl,by rw [cell_of_row _ _ 1 _ _ _ ob];rfl,by rw [cell_of_row _ _ 2 _ _ _ ob];rfl,by rw [cell_of_row _ _ 0 _ _ _ oa];rfl,by rw [cell_of_row _ _ 1 _ _ _ oa];rfl,by rw [cell_of_row _ _ 2 _ _ _ oa];rfl,by rw [cell_of_row _ _ 0 _ _ _ op];rfl,by rw [cell_of_row _ _ 1 _ _ _ op];rfl,by rw [cell_of_row _ _ 2 _ _ _ op];rfl,h⟩
theorem oc_om (h:Oc x y w hi mb kb bb pb gb p1 p2 p3 k1 k2 k3 b1 b2 b3 m1 m2 m3 g1 g2 g3 a1 a2 a3 pm1 pt1 pm2 pt2 pm3 pt3 km1 kt1 km2 kt2 km3 kt3 bm1 bt1 bm2 bt2 bm3 bt3 mm1 mt1 mm2 mt2 mm3 mt3 gm1 gt1 gm2 gt2 gm3 gt3 n1 c1 n2 c2 n3 c3 X):Om x y w hi mb kb bb pb gb p1 p2 p3 k1 k2 k3 b1 b2 b3 m1 m2 m3 g1 g2 g3 a1 a2 a3 pm1 pt1 pm2 pt2 pm3 pt3 km1 kt1 km2 kt2 km3 kt3 bm1 bt1 bm2 bt2 bm3 bt3 mm1 mt1 mm2 mt2 mm3 mt3 gm1 gt1 gm2 gt2 gm3 gt3 n1 c1 n2 c2 n3 c3 X:=h.2.2.2.2.2.2.2.2.2.2.2.2.2.2.2
theorem oc_below (h:Oc x y w hi mb kb bb pb gb p1 p2 p3 k1 k2 k3 b1 b2 b3 m1 m2 m3 g1 g2 g3 a1 a2 a3 pm1 pt1 pm2 pt2 pm3 pt3 km1 kt1 km2 kt2 km3 kt3 bm1 bt1 bm2 bt2 bm3 bt3 mm1 mt1 mm2 mt2 mm3 mt3 gm1 gt1 gm2 gt2 gm3 gt3 n1 c1 n2 c2 n3 c3 X) (hb:Below X.heap.size X Y):Oc x y w hi mb kb bb pb gb p1 p2 p3 k1 k2 k3 b1 b2 b3 m1 m2 m3 g1 g2 g3 a1 a2 a3 pm1 pt1 pm2 pt2 pm3 pt3 km1 kt1 km2 kt2 km3 kt3 bm1 bt1 bm2 bt2 bm3 bt3 mm1 mt1 mm2 mt2 mm3 mt3 gm1 gt1 gm2 gt2 gm3 gt3 n1 c1 n2 c2 n3 c3 Y:=oc_of ((oc_om h).below hb)
theorem oc_drew (h:Om x y w hi mb kb bb pb gb p1 p2 p3 k1 k2 k3 b1 b2 b3 m1 m2 m3 g1 g2 g3 a1 a2 a3 pm1 pt1 pm2 pt2 pm3 pt3 km1 kt1 km2 kt2 km3 kt3 bm1 bt1 bm2 bt2 bm3 bt3 mm1 mt1 mm2 mt2 mm3 mt3 gm1 gt1 gm2 gt2 gm3 gt3 n1 c1 n2 c2 n3 c3 X):Oc x y w hi mb kb bb pb gb p1 p2 p3 k1 k2 k3 b1 b2 b3 m1 m2 m3 g1 g2 g3 a1 a2 a3 pm1 pt1 pm2 pt2 pm3 pt3 km1 kt1 km2 kt2 km3 kt3 bm1 bt1 bm2 bt2 bm3 bt3 mm1 mt1 mm2 mt2 mm3 mt3 gm1 gt1 gm2 gt2 gm3 gt3 n1 c1 n2 c2 n3 c3 X.drew:=oc_of (h.below (below_drewN (Below.refl _ X) 1))
end
section
variable {P:Program} {md:Region.Mode} {l:List Oper} {Q:Exit→Act→World→Prop} {S:World→Prop}
theorem takeL {i:Nat} {oi:Oper} {v:Value} {fuel:Nat} {listed:Array Bool} {a:Act} {w:World} (hi:l[i]? = some oi)
 (hs:Region.noSelect l.toArray=true) (hf:Region.free md l.toArray listed i=true) (hr:(Region.ready md l.toArray listed).contains i=true)
 (hQ:∀ c a w,Q (.panic c) (a.put oi.dst v) w→Q (.panic c) a w) (hy:YieldsIf P l.toArray S oi v a) (hS:S w)
 (h:wpAnyH P md l.toArray Q S fuel (listed.setIfInBounds i true) (a.put oi.dst v) w):wpAnyH P md l.toArray Q S (fuel+1) listed a w :=
 wpAnyH_take (by simpa using hi) hs hf hr hQ hy hS h
theorem consL {fuel:Nat} {listed:Array Bool} {a:Act} {w:World} {i:Nat} {o:Oper} {rs:List Nat} (ho:l[i]? = some o)
 (h:∀ K':Act→World→Prop,Shut (∀ a w,S w→(S w→wpAnyH P md l.toArray Q S fuel (listed.setIfInBounds i true) a w)→K' a w)→if Region.wanted o (yielded l.toArray a.tmps)=true then Oper.wp P o a w K' Q else K' (a.put o.dst undef) w)
 (hs:AllReadyH P md l.toArray Q S fuel listed a w rs):AllReadyH P md l.toArray Q S fuel listed a w (i::rs) :=
 AllReadyH.cons (by simpa using ho) h hs
end
theorem own_walk (x:Pg) (okx:PrOk x) (fx:fitP x) (hct:ctP x≤1048576) (f t:ByteArray) (ht:nmOk t) {v:Value} {w:World} (hx:pA w x v) (TT:WTb w) :
 Calls Tryz.prog 5 #[v,.string f,.string t] w fun e w'=>e=.returned (.bool true)∧Below w.heap.size w w':=by
 have HBG:Hid (∀ W,WTb W→Calls Tryz.prog 12 #[] W fun e w'=>e=.returned (.bool true)∧Below W.heap.size W w'):=fun W T=>p_begins4 T
 have HCP:Hid (∀ X y v,ctP y≤1048576→pA X y v→Calls Tryz.prog 14 #[v] X (CoP y X)):=fun X y v h1 h2=>o_copy y h1 h2
 have HSP:Hid (∀ X v,pA X x v→Calls Tryz.prog 15 #[v] X (StP x.bare X)):=fun X v h=>o_strip x fx okx.1 h
 have HRN:Hid (∀ X v,pA X x v→WTb X→Calls Tryz.prog 6 #[v,.string f,.string t] X (ReP X)):=fun X v h T=>o_rename x okx fx hct f t ht h T
 have HSL:Hid (∀ lo hi X v,Gv x lo hi X v→lo≤hi→hi≤X.heap.size→Calls Tryz.prog 16 #[v] X (SplP lo hi X)):=fun lo hi X v h h1 h2=>o_spoil x hct h h1 h2
 have HEX:Hid (∀ X y v u,okP y→pA X y v→pA X y u→Calls Tryz.prog 11 #[v,u] X fun e w'=>e=.returned (.bool true)∧Below X.heap.size X w'):=fun X y v u h h1 h2=>r_Exactly y h h1 h2
 have HN0:Hid (∀ X v,pA X x v→Calls Tryz.prog 9 #[v] X (NaP x X)):=fun X v h=>o_names x x rfl fx okx.1 hct h
 have HN1:Hid (∀ X v,pA X x.bare v→Calls Tryz.prog 9 #[v] X (NaP x X)):=fun X v h=>o_names x x.bare (nmP_bare x) (fitP_bare fx) (okP_bare okx.1) (by rw [ctP_bare];exact hct) h
 have HOB:Hid (okP x.bare):=okP_bare okx.1
 have HCT:=Lib.hid hct
 have HCB:Hid (ctP x.bare≤1048576):=by unfold Hid;rw [ctP_bare];exact hct
 have HTT:=Lib.hid TT
 have HX:=Lib.hid hx
 obtain ⟨a1,c1,a2,c2,a3,c3,rfl,_⟩:=hx
 generalize x.shared.length=n1 at HX ⊢
 generalize x.locks.length=n2 at HX ⊢
 generalize x.threads.length=n3 at HX ⊢
 have HXF:Hid (∀ X,Below w.heap.size w X→pA X x (.agg #[.slice a1 n1 c1,.slice a2 n2 c2,.slice a3 n3 c3])):=fun X h=>pA_below HX.out h
 have HB0:Hid (Bxs w [(w.heap.size,#[.slice a1 n1 c1,.slice a2 n2 c2,.slice a3 n3 c3])] (w.alloc (.cells #[.slice a1 n1 c1,.slice a2 n2 c2,.slice a3 n3 c3] 25))):=⟨fun p hp=>by
  obtain rfl:p=_:=by simpa using hp
  exact Own.new w _ _,(Below.refl _ w).alloc (Nat.le_refl _) _⟩
 obtain ⟨W0,hW0⟩:∃ W,W=w.alloc (.cells #[.slice a1 n1 c1,.slice a2 n2 c2,.slice a3 n3 c3] 25):=⟨_,rfl⟩
 rw [← hW0] at HB0
 have HZ0:Hid (w.heap.size+1≤W0.heap.size):=by rw [Hid,hW0,World.size_alloc];exact Nat.le_refl _
 have HW0:=Lib.hid hW0
 clear hW0 TT okx fx hct ht HX
 go_enter Tryz.func5,Tryz.ntmps5
 go_upto_region 1 with (fail)
 rw [← HW0.out]
 clear HW0
 go_wp2_with fail
 go_at_call 12
 refine (HBG.out _ (HTT.out.below HB0.out.bel)).mono ?_
 rintro e w1 ⟨rfl,hb⟩
 have HB1:=Lib.hid (HB0.out.below hb)
 have HZ1:Hid (w.heap.size+1≤w1.heap.size):=Nat.le_trans HZ0.out hb.size
 clear hb HBG HB0 HZ0
 have O1:=HB1.out.own (w.heap.size,#[.slice a1 n1 c1,.slice a2 n2 c2,.slice a3 n3 c3]) (by simp)
 go_wp2_with (refine ld rowPg rfl rfl rfl O1 rfl ?_)
 go_at_call 14
 refine (HCP.out _ x _ HCT.out (HXF.out _ HB1.out.bel)).mono ?_
 rintro e v3 ⟨g1,gm1,gt1,g2,gm2,gt2,g3,gm3,gt3,rfl,hb,_,hG⟩
 have Z1:=Own.new v3 25 #[.slice none 0 0,.slice none 0 0,.slice none 0 0]
 have hB9:=add_below v3 #[.slice g1 gm1 gt1,.slice g2 gm2 gt2,.slice g3 gm3 gt3]
 obtain ⟨lo,hlo⟩:∃ lo,lo=w1.heap.size:=⟨_,rfl⟩
 obtain ⟨gb,hgb⟩:∃ gb,gb=v3.heap.size:=⟨_,rfl⟩
 have HB3:=Lib.hid ((HB1.out.below hb).add #[.slice g1 gm1 gt1,.slice g2 gm2 gt2,.slice g3 gm3 gt3])
 have HG3:=Lib.hid (gv_below hG (Nat.le_refl _) hB9)
 have HLG:Hid (w.heap.size<lo∧lo≤gb∧gb≤((v3.alloc (.cells #[.slice none 0 0,.slice none 0 0,.slice none 0 0] 25)).setRow v3.heap.size #[.slice g1 gm1 gt1,.slice g2 gm2 gt2,.slice g3 gm3 gt3]).heap.size):=by
  have:=HZ1.out;have:=hb.size;have:=hB9.size;unfold Hid;omega
 obtain ⟨W3,hW3⟩:∃ W,W=(v3.alloc (.cells #[.slice none 0 0,.slice none 0 0,.slice none 0 0] 25)).setRow v3.heap.size #[.slice g1 gm1 gt1,.slice g2 gm2 gt2,.slice g3 gm3 gt3]:=⟨_,rfl⟩
 rw [← hW3] at HB3 HG3 HLG
 rw [← hlo,← hgb] at HG3
 have HW3:=Lib.hid hW3
 clear hW3 hb hG hB9 O1 HB1 HZ1 hlo
 go_upto_region 4 with (refine st rowPg rfl rfl Z1 rfl rfl (by rfl) (by rfl) (by kernel_rfl) ?_)
 rw [← HW3.out]
 clear HW3 Z1
 rw [← hgb] at HB3 ⊢
 clear hgb
 have O4:=HB3.out.own (gb,#[.slice g1 gm1 gt1,.slice g2 gm2 gt2,.slice g3 gm3 gt3]) (by simp)
 go_wp2_with (refine ld rowPg rfl rfl rfl O4 rfl ?_)
 go_at_call 15
 refine (HSP.out _ _ (gv_pA HG3.out)).mono ?_
 rintro e v4 ⟨p1,pm1,pt1,p2,pm2,pt2,p3,pm3,pt3,rfl,hb,hT⟩
 have HGP4:Hid (gb≤W3.heap.size):=HLG.out.2.2
 have Z1:=Own.new v4 25 #[.slice none 0 0,.slice none 0 0,.slice none 0 0]
 have hB9:=add_below v4 #[.slice p1 pm1 pt1,.slice p2 pm2 pt2,.slice p3 pm3 pt3]
 have hBB:=hb.trans (hB9.mono hb.size)
 obtain ⟨pb,hpb⟩:∃ z,z=v4.heap.size:=⟨_,rfl⟩
 have HB4:=Lib.hid ((HB3.out.below hb).add #[.slice p1 pm1 pt1,.slice p2 pm2 pt2,.slice p3 pm3 pt3])
 have HG4:=Lib.hid (gv_below HG3.out HLG.out.2.2 hBB)
 have Hpb:Hid (gb≤pb):=by have:=HLG.out;have:=hb.size;unfold Hid;omega
 have HLG:Hid (w.heap.size<lo∧lo≤gb∧gb≤((v4.alloc (.cells #[.slice none 0 0,.slice none 0 0,.slice none 0 0] 25)).setRow v4.heap.size #[.slice p1 pm1 pt1,.slice p2 pm2 pt2,.slice p3 pm3 pt3]).heap.size):=by
  have:=HLG.out;have:=hBB.size;unfold Hid;omega
 have HTpb:=Lib.hid (trH_below (hT gb HGP4.out) hB9)
 obtain ⟨W4,hW4⟩:∃ W,W=(v4.alloc (.cells #[.slice none 0 0,.slice none 0 0,.slice none 0 0] 25)).setRow v4.heap.size #[.slice p1 pm1 pt1,.slice p2 pm2 pt2,.slice p3 pm3 pt3]:=⟨_,rfl⟩
 rw [← hW4] at HB4 HG4 HLG HTpb
 have HW4:=Lib.hid hW4
 clear hW4 hb hT hB9 hBB O4 HB3 HG3 HGP4
 go_upto_region 5 with (refine st rowPg rfl rfl Z1 rfl rfl (by rfl) (by rfl) (by kernel_rfl) ?_)
 rw [← HW4.out]
 clear HW4 Z1
 rw [← hpb] at HB4 ⊢
 clear hpb
 have O5:=HB4.out.own (gb,#[.slice g1 gm1 gt1,.slice g2 gm2 gt2,.slice g3 gm3 gt3]) (by simp)
 go_wp2_with (refine ld rowPg rfl rfl rfl O5 rfl ?_)
 go_at_call 6
 refine (HRN.out _ _ (gv_pA HG4.out) (HTT.out.below HB4.out.bel)).mono ?_
 rintro e v5 ⟨b1,bm1,bt1,b2,bm2,bt2,b3,bm3,bt3,z,rfl,hb,hz,y,hcy,hoy,hT⟩
 have HGP5:Hid (gb≤W4.heap.size):=HLG.out.2.2
 have Z1:=Own.new v5 25 #[.slice none 0 0,.slice none 0 0,.slice none 0 0]
 have hB9:=add_below v5 #[.slice b1 bm1 bt1,.slice b2 bm2 bt2,.slice b3 bm3 bt3]
 have hBB:=hb.trans (hB9.mono hb.size)
 obtain ⟨bb,hbb⟩:∃ z,z=v5.heap.size:=⟨_,rfl⟩
 have HB5:=Lib.hid ((HB4.out.below hb).add #[.slice b1 bm1 bt1,.slice b2 bm2 bt2,.slice b3 bm3 bt3])
 have HG5:=Lib.hid (gv_below HG4.out HLG.out.2.2 hBB)
 have Hbb:Hid (gb≤bb):=by have:=HLG.out;have:=hb.size;unfold Hid;omega
 have HLG:Hid (w.heap.size<lo∧lo≤gb∧gb≤((v5.alloc (.cells #[.slice none 0 0,.slice none 0 0,.slice none 0 0] 25)).setRow v5.heap.size #[.slice b1 bm1 bt1,.slice b2 bm2 bt2,.slice b3 bm3 bt3]).heap.size):=by
  have:=HLG.out;have:=hBB.size;unfold Hid;omega
 have HTpb:=Lib.hid (trH_below HTpb.out hBB)
 have HTbb:=Lib.hid (trH_below (hT gb HGP5.out) hB9)
 obtain ⟨W5,hW5⟩:∃ W,W=(v5.alloc (.cells #[.slice none 0 0,.slice none 0 0,.slice none 0 0] 25)).setRow v5.heap.size #[.slice b1 bm1 bt1,.slice b2 bm2 bt2,.slice b3 bm3 bt3]:=⟨_,rfl⟩
 rw [← hW5] at HB5 HG5 HLG HTbb HTpb
 have HW5:=Lib.hid hW5
 clear hW5 hb hT hB9 hBB O5 HB4 HG4 HGP5
 go_upto_region 6 with (refine st rowPg rfl rfl Z1 rfl rfl (by rfl) (by rfl) (by kernel_rfl) ?_)
 rw [← HW5.out]
 clear HW5 Z1
 rw [← hbb] at HB5 ⊢
 clear hbb
 have HCY:=Lib.hid hcy
 have HOY:=Lib.hid hoy
 have HZZ:=Lib.hid hz
 clear hcy hoy hz
 have O6:=HB5.out.own (pb,#[.slice p1 pm1 pt1,.slice p2 pm2 pt2,.slice p3 pm3 pt3]) (by simp)
 go_wp2_with (refine ld rowPg rfl rfl rfl O6 rfl ?_)
 go_at_call 14
 refine (HCP.out _ x.bare _ HCB.out (trH_pA HTpb.out)).mono ?_
 rintro e v6 ⟨k1,km1,kt1,k2,km2,kt2,k3,km3,kt3,rfl,hb,hT,_⟩
 have HGP6:Hid (gb≤W5.heap.size):=HLG.out.2.2
 have Z1:=Own.new v6 25 #[.slice none 0 0,.slice none 0 0,.slice none 0 0]
 have hB9:=add_below v6 #[.slice k1 km1 kt1,.slice k2 km2 kt2,.slice k3 km3 kt3]
 have hBB:=hb.trans (hB9.mono hb.size)
 obtain ⟨kb,hkb⟩:∃ z,z=v6.heap.size:=⟨_,rfl⟩
 have HB6:=Lib.hid ((HB5.out.below hb).add #[.slice k1 km1 kt1,.slice k2 km2 kt2,.slice k3 km3 kt3])
 have HG6:=Lib.hid (gv_below HG5.out HLG.out.2.2 hBB)
 have Hkb:Hid (gb≤kb):=by have:=HLG.out;have:=hb.size;unfold Hid;omega
 have HLG:Hid (w.heap.size<lo∧lo≤gb∧gb≤((v6.alloc (.cells #[.slice none 0 0,.slice none 0 0,.slice none 0 0] 25)).setRow v6.heap.size #[.slice k1 km1 kt1,.slice k2 km2 kt2,.slice k3 km3 kt3]).heap.size):=by
  have:=HLG.out;have:=hBB.size;unfold Hid;omega
 have HTpb:=Lib.hid (trH_below HTpb.out hBB)
 have HTbb:=Lib.hid (trH_below HTbb.out hBB)
 have HTkb:=Lib.hid (trH_below (hT gb HGP6.out) hB9)
 obtain ⟨W6,hW6⟩:∃ W,W=(v6.alloc (.cells #[.slice none 0 0,.slice none 0 0,.slice none 0 0] 25)).setRow v6.heap.size #[.slice k1 km1 kt1,.slice k2 km2 kt2,.slice k3 km3 kt3]:=⟨_,rfl⟩
 rw [← hW6] at HB6 HG6 HLG HTkb HTpb HTbb
 have HW6:=Lib.hid hW6
 clear hW6 hb hT hB9 hBB O6 HB5 HG5 HGP6
 go_upto_region 7 with (refine st rowPg rfl rfl Z1 rfl rfl (by rfl) (by rfl) (by kernel_rfl) ?_)
 rw [← HW6.out]
 clear HW6 Z1
 rw [← hkb] at HB6 ⊢
 clear hkb
 have O7:=HB6.out.own (bb,#[.slice b1 bm1 bt1,.slice b2 bm2 bt2,.slice b3 bm3 bt3]) (by simp)
 go_wp2_with (refine ld rowPg rfl rfl rfl O7 rfl ?_)
 go_at_call 14
 refine (HCP.out _ y _ HCY.out (trH_pA HTbb.out)).mono ?_
 rintro e v7 ⟨m1,mm1,mt1,m2,mm2,mt2,m3,mm3,mt3,rfl,hb,hT,_⟩
 have HGP7:Hid (gb≤W6.heap.size):=HLG.out.2.2
 have Z1:=Own.new v7 25 #[.slice none 0 0,.slice none 0 0,.slice none 0 0]
 have hB9:=add_below v7 #[.slice m1 mm1 mt1,.slice m2 mm2 mt2,.slice m3 mm3 mt3]
 have hBB:=hb.trans (hB9.mono hb.size)
 obtain ⟨mb,hmb⟩:∃ z,z=v7.heap.size:=⟨_,rfl⟩
 have HB7:=Lib.hid ((HB6.out.below hb).add #[.slice m1 mm1 mt1,.slice m2 mm2 mt2,.slice m3 mm3 mt3])
 have HG7:=Lib.hid (gv_below HG6.out HLG.out.2.2 hBB)
 have Hmb:Hid (gb≤mb):=by have:=HLG.out;have:=hb.size;unfold Hid;omega
 have HLG:Hid (w.heap.size<lo∧lo≤gb∧gb≤((v7.alloc (.cells #[.slice none 0 0,.slice none 0 0,.slice none 0 0] 25)).setRow v7.heap.size #[.slice m1 mm1 mt1,.slice m2 mm2 mt2,.slice m3 mm3 mt3]).heap.size):=by
  have:=HLG.out;have:=hBB.size;unfold Hid;omega
 have HTpb:=Lib.hid (trH_below HTpb.out hBB)
 have HTbb:=Lib.hid (trH_below HTbb.out hBB)
 have HTkb:=Lib.hid (trH_below HTkb.out hBB)
 have HTmb:=Lib.hid (trH_below (hT gb HGP7.out) hB9)
 obtain ⟨W7,hW7⟩:∃ W,W=(v7.alloc (.cells #[.slice none 0 0,.slice none 0 0,.slice none 0 0] 25)).setRow v7.heap.size #[.slice m1 mm1 mt1,.slice m2 mm2 mt2,.slice m3 mm3 mt3]:=⟨_,rfl⟩
 rw [← hW7] at HB7 HG7 HLG HTmb HTpb HTbb HTkb
 have HW7:=Lib.hid hW7
 clear hW7 hb hT hB9 hBB O7 HB6 HG6 HGP7
 go_upto_region 8 with (refine st rowPg rfl rfl Z1 rfl rfl (by rfl) (by rfl) (by kernel_rfl) ?_)
 rw [← HW7.out]
 clear HW7 Z1
 rw [← hmb] at HB7 ⊢
 clear hmb
 have O8:=HB7.out.own (gb,#[.slice g1 gm1 gt1,.slice g2 gm2 gt2,.slice g3 gm3 gt3]) (by simp)
 go_wp2_with (refine ld rowPg rfl rfl rfl O8 rfl ?_)
 go_at_call 16
 refine (HSL.out lo gb _ _ HG7.out HLG.out.2.1 HLG.out.2.2).mono ?_
 rintro e w8 ⟨rfl,hsp⟩
 have HOM:Hid (Om x y w gb mb kb bb pb gb p1 p2 p3 k1 k2 k3 b1 b2 b3 m1 m2 m3 g1 g2 g3 a1 a2 a3 pm1 pt1 pm2 pt2 pm3 pt3 km1 kt1 km2 kt2 km3 kt3 bm1 bt1 bm2 bt2 bm3 bt3 mm1 mt1 mm2 mt2 mm3 mt3 gm1 gt1 gm2 gt2 gm3 gt3 n1 c1 n2 c2 n3 c3 w8):=by
  have hlg:=HLG.out
  have h1:=Hpb.out;have h2:=Hbb.out;have h3:=Hkb.out;have h4:=Hmb.out
  have hbx:Bxs w [(mb,#[.slice m1 mm1 mt1,.slice m2 mm2 mt2,.slice m3 mm3 mt3]),(kb,#[.slice k1 km1 kt1,.slice k2 km2 kt2,.slice k3 km3 kt3]),(bb,#[.slice b1 bm1 bt1,.slice b2 bm2 bt2,.slice b3 bm3 bt3]),(pb,#[.slice p1 pm1 pt1,.slice p2 pm2 pt2,.slice p3 pm3 pt3]),(gb,#[.slice g1 gm1 gt1,.slice g2 gm2 gt2,.slice g3 gm3 gt3]),(w.heap.size,#[.slice a1 n1 c1,.slice a2 n2 c2,.slice a3 n3 c3])] w8:=bxs_sp HB7.out hsp (by omega) (fun p hp=>by
   simp only [List.mem_cons,List.not_mem_nil,or_false] at hp
   rcases hp with rfl | rfl | rfl | rfl | rfl | rfl
   · exact .inr h4
   · exact .inr h3
   · exact .inr h2
   · exact .inr h1
   · exact .inr (Nat.le_refl _)
   · exact .inl hlg.1)
  exact ⟨hbx,HXF.out _ hbx.bel,trH_sp HTpb.out hsp,trH_sp HTkb.out hsp,trH_sp HTbb.out hsp,trH_sp HTmb.out hsp⟩
 have H33:Hid (∀ X,Oc x y w gb mb kb bb pb gb p1 p2 p3 k1 k2 k3 b1 b2 b3 m1 m2 m3 g1 g2 g3 a1 a2 a3 pm1 pt1 pm2 pt2 pm3 pt3 km1 kt1 km2 kt2 km3 kt3 bm1 bt1 bm2 bt2 bm3 bt3 mm1 mt1 mm2 mt2 mm3 mt3 gm1 gt1 gm2 gt2 gm3 gt3 n1 c1 n2 c2 n3 c3 X→Calls Tryz.prog 11 #[.agg #[.slice p1 pm1 pt1,.slice p2 pm2 pt2,.slice p3 pm3 pt3],.agg #[.slice k1 km1 kt1,.slice k2 km2 kt2,.slice k3 km3 kt3]] X fun e w'=>e=.returned (.bool true)∧Below X.heap.size X w'):=fun X h=>HEX.out X _ _ _ HOB.out (trH_pA (oc_om h).ta) (trH_pA (oc_om h).tk)
 have H34:Hid (∀ X,Oc x y w gb mb kb bb pb gb p1 p2 p3 k1 k2 k3 b1 b2 b3 m1 m2 m3 g1 g2 g3 a1 a2 a3 pm1 pt1 pm2 pt2 pm3 pt3 km1 kt1 km2 kt2 km3 kt3 bm1 bt1 bm2 bt2 bm3 bt3 mm1 mt1 mm2 mt2 mm3 mt3 gm1 gt1 gm2 gt2 gm3 gt3 n1 c1 n2 c2 n3 c3 X→Calls Tryz.prog 11 #[.agg #[.slice b1 bm1 bt1,.slice b2 bm2 bt2,.slice b3 bm3 bt3],.agg #[.slice m1 mm1 mt1,.slice m2 mm2 mt2,.slice m3 mm3 mt3]] X fun e w'=>e=.returned (.bool true)∧Below X.heap.size X w'):=fun X h=>HEX.out X _ _ _ HOY.out (trH_pA (oc_om h).tb) (trH_pA (oc_om h).tm)
 have H35:Hid (∀ X,Oc x y w gb mb kb bb pb gb p1 p2 p3 k1 k2 k3 b1 b2 b3 m1 m2 m3 g1 g2 g3 a1 a2 a3 pm1 pt1 pm2 pt2 pm3 pt3 km1 kt1 km2 kt2 km3 kt3 bm1 bt1 bm2 bt2 bm3 bt3 mm1 mt1 mm2 mt2 mm3 mt3 gm1 gt1 gm2 gt2 gm3 gt3 n1 c1 n2 c2 n3 c3 X→Calls Tryz.prog 9 #[.agg #[.slice a1 n1 c1,.slice a2 n2 c2,.slice a3 n3 c3]] X (NaP x X)):=fun X h=>HN0.out X _ (oc_om h).t0
 have H36:Hid (∀ X,Oc x y w gb mb kb bb pb gb p1 p2 p3 k1 k2 k3 b1 b2 b3 m1 m2 m3 g1 g2 g3 a1 a2 a3 pm1 pt1 pm2 pt2 pm3 pt3 km1 kt1 km2 kt2 km3 kt3 bm1 bt1 bm2 bt2 bm3 bt3 mm1 mt1 mm2 mt2 mm3 mt3 gm1 gt1 gm2 gt2 gm3 gt3 n1 c1 n2 c2 n3 c3 X→Calls Tryz.prog 9 #[.agg #[.slice k1 km1 kt1,.slice k2 km2 kt2,.slice k3 km3 kt3]] X (NaP x X)):=fun X h=>HN1.out X _ (trH_pA (oc_om h).tk)
 have HZC:=Lib.hid HZZ.out
 clear hsp O8 HB7 HG7 HLG Hpb Hbb Hkb Hmb HTpb HTbb HTkb HTmb HCP HSP HRN HSL HEX HN0 HN1 HOB HOY HCT HCB HCY HTT HXF HZZ
 rcases HZC.out with hz0 | ⟨hz0,hb0⟩
 · have hz1 : (z == 0) = true := by simpa using hz0
   clear hz0
   go_upto_region 9 with (fail)
   refine wp_region_noPanic ?_
   refine wp_region_held_drew (S:=(fun X=>X.cell? ⟨mb,0,none⟩=some (.slice m1 mm1 mt1)∧X.cell? ⟨mb,1,none⟩=some (.slice m2 mm2 mt2)∧X.cell? ⟨mb,2,none⟩=some (.slice m3 mm3 mt3)∧X.cell? ⟨kb,0,none⟩=some (.slice k1 km1 kt1)∧X.cell? ⟨kb,1,none⟩=some (.slice k2 km2 kt2)∧X.cell? ⟨kb,2,none⟩=some (.slice k3 km3 kt3)∧X.cell? ⟨bb,0,none⟩=some (.slice b1 bm1 bt1)∧X.cell? ⟨bb,1,none⟩=some (.slice b2 bm2 bt2)∧X.cell? ⟨bb,2,none⟩=some (.slice b3 bm3 bt3)∧X.cell? ⟨pb,0,none⟩=some (.slice p1 pm1 pt1)∧X.cell? ⟨pb,1,none⟩=some (.slice p2 pm2 pt2)∧X.cell? ⟨pb,2,none⟩=some (.slice p3 pm3 pt3)∧X.cell? ⟨w.heap.size,0,none⟩=some (.slice a1 n1 c1)∧X.cell? ⟨w.heap.size,1,none⟩=some (.slice a2 n2 c2)∧X.cell? ⟨w.heap.size,2,none⟩=some (.slice a3 n3 c3)∧Om x y w gb mb kb bb pb gb p1 p2 p3 k1 k2 k3 b1 b2 b3 m1 m2 m3 g1 g2 g3 a1 a2 a3 pm1 pt1 pm2 pt2 pm3 pt3 km1 kt1 km2 kt2 km3 kt3 bm1 bt1 bm2 bt2 bm3 bt3 mm1 mt1 mm2 mt2 mm3 mt3 gm1 gt1 gm2 gt2 gm3 gt3 n1 c1 n2 c2 n3 c3 X)) (by kernel_rfl) ?_ (fun hHeld=>?_)
   · try dsimp only
     (first | exact oc_drew HOM.out | exact oc_below (by assumption) (by assumption))
   refine takeL (i:=0) (v:=?_) (by rfl) (by kernel_rfl) (by kernel_rfl) (by kernel_rfl) (fun _ _ _ h=>h) (Or.inl ⟨by rfl,?_⟩) (by assumption) ?_
   rotate_left
   · intro w hSw
     try dsimp only at hSw
     go_simp <;> with_reducible rfl
   try simp only [Act.put,List.setIfInBounds_toArray,List.set_cons_zero,List.set_cons_succ]
   refine takeL (i:=1) (v:=?_) (by rfl) (by kernel_rfl) (by kernel_rfl) (by kernel_rfl) (fun _ _ _ h=>h) (Or.inl ⟨by rfl,?_⟩) (by assumption) ?_
   rotate_left
   · intro w hSw
     try dsimp only at hSw
     go_simp <;> with_reducible rfl
   try simp only [Act.put,List.setIfInBounds_toArray,List.set_cons_zero,List.set_cons_succ]
   refine wpAnyH_ready (rs:=[2]) (by kernel_rfl) (by simp) ?_
   refine consL (by rfl) (fun K hK=>?_) AllReadyH.nil
   go_simp
   go_at_call_of 11 (Value.slice k1 km1 kt1)
   refine (H33.out _ (by assumption)).mono ?_
   rintro e u9 ⟨rfl,hb⟩
   refine hK.out _ _ ?_ (fun hHeld=>?_)
   · try dsimp only
     (first | exact oc_drew HOM.out | exact oc_below (by assumption) (by assumption))
   clear hK K
   try simp only [Act.put,List.setIfInBounds_toArray,List.set_cons_zero,List.set_cons_succ]
   refine takeL (i:=3) (v:=?_) (by rfl) (by kernel_rfl) (by kernel_rfl) (by kernel_rfl) (fun _ _ _ h=>h) (Or.inl ⟨by rfl,?_⟩) (by assumption) ?_
   rotate_left
   · intro w hSw
     try dsimp only at hSw
     go_simp <;> with_reducible rfl
   try simp only [Act.put,List.setIfInBounds_toArray,List.set_cons_zero,List.set_cons_succ]
   refine takeL (i:=4) (v:=?_) (by rfl) (by kernel_rfl) (by kernel_rfl) (by kernel_rfl) (fun _ _ _ h=>h) (Or.inl ⟨by rfl,?_⟩) (by assumption) ?_
   rotate_left
   · intro w hSw
     try dsimp only at hSw
     go_simp <;> with_reducible rfl
   try simp only [Act.put,List.setIfInBounds_toArray,List.set_cons_zero,List.set_cons_succ]
   refine takeL (i:=5) (v:=?_) (by rfl) (by kernel_rfl) (by kernel_rfl) (by kernel_rfl) (fun _ _ _ h=>h) (Or.inl ⟨by rfl,?_⟩) (by assumption) ?_
   rotate_left
   · intro w hSw
     try dsimp only at hSw
     go_simp <;> with_reducible rfl
   try simp only [Act.put,List.setIfInBounds_toArray,List.set_cons_zero,List.set_cons_succ]
   refine wpAnyH_ready (rs:=[6]) (by kernel_rfl) (by simp) ?_
   refine consL (by rfl) (fun K hK=>?_) AllReadyH.nil
   go_simp
   go_at_call_of 11 (Value.slice m1 mm1 mt1)
   refine (H34.out _ (by assumption)).mono ?_
   rintro e u9 ⟨rfl,hb⟩
   refine hK.out _ _ ?_ (fun hHeld=>?_)
   · try dsimp only
     (first | exact oc_drew HOM.out | exact oc_below (by assumption) (by assumption))
   clear hK K
   try simp only [Act.put,List.setIfInBounds_toArray,List.set_cons_zero,List.set_cons_succ]
   refine takeL (i:=7) (v:=?_) (by rfl) (by kernel_rfl) (by kernel_rfl) (by kernel_rfl) (fun _ _ _ h=>h) (Or.inl ⟨by rfl,?_⟩) (by assumption) ?_
   rotate_left
   · intro w hSw
     try dsimp only at hSw
     go_simp <;> with_reducible rfl
   try simp only [Act.put,List.setIfInBounds_toArray,List.set_cons_zero,List.set_cons_succ]
   refine takeL (i:=8) (v:=?_) (by rfl) (by kernel_rfl) (by kernel_rfl) (by kernel_rfl) (fun _ _ _ h=>h) (Or.inl ⟨by rfl,?_⟩) (by assumption) ?_
   rotate_left
   · intro w hSw
     try dsimp only at hSw
     go_simp <;> with_reducible rfl
   try simp only [Act.put,List.setIfInBounds_toArray,List.set_cons_zero,List.set_cons_succ]
   refine takeL (i:=9) (v:=?_) (by rfl) (by kernel_rfl) (by kernel_rfl) (by kernel_rfl) (fun _ _ _ h=>h) (Or.inl ⟨by rfl,?_⟩) (by assumption) ?_
   rotate_left
   · intro w hSw
     try dsimp only at hSw
     go_simp <;> with_reducible rfl
   try simp only [Act.put,List.setIfInBounds_toArray,List.set_cons_zero,List.set_cons_succ]
   refine takeL (i:=11) (v:=?_) (by rfl) (by kernel_rfl) (by kernel_rfl) (by kernel_rfl) (fun _ _ _ h=>h) (Or.inl ⟨by rfl,?_⟩) (by assumption) ?_
   rotate_left
   · intro w hSw
     try dsimp only at hSw
     go_simp <;> with_reducible rfl
   try simp only [Act.put,List.setIfInBounds_toArray,List.set_cons_zero,List.set_cons_succ]
   refine wpAnyH_ready (rs:=[10]) (by kernel_rfl) (by simp) ?_
   refine consL (by rfl) (fun K hK=>?_) AllReadyH.nil
   go_simp
   go_at_call_of 9 (Value.slice a1 n1 c1)
   refine (H35.out _ (by assumption)).mono ?_
   rintro e u9 ⟨la,l,lc,rfl,hNL,hl2,⟨lbs,hst⟩,hb⟩
   refine hK.out _ _ ?_ (fun hHeld=>?_)
   · try dsimp only
     (first | exact oc_drew HOM.out | exact oc_below (by assumption) (by assumption))
   clear hK K
   try simp only [Act.put,List.setIfInBounds_toArray,List.set_cons_zero,List.set_cons_succ]
   refine wpAnyH_ready (rs:=[12]) (by kernel_rfl) (by simp) ?_
   refine consL (by rfl) (fun K hK=>?_) AllReadyH.nil
   go_simp
   go_at_call_of 9 (Value.slice k1 km1 kt1)
   refine (H36.out _ (by assumption)).mono ?_
   rintro e u8 ⟨ma,m,mc,hem,hNM,hm2,⟨mbs,hstm⟩,hb⟩
   have hml:m=l:=nl_one (L:=nmP x) hNM.1 hNL.1 (fun s=>(hNM.2 s).trans (hNL.2 s).symm)
   rw [hml] at hem hstm
   subst hem
   have hstl:=strsAt_below hst hb
   refine hK.out _ _ ?_ (fun hHeld=>?_)
   · try dsimp only
     (first | exact oc_drew HOM.out | exact oc_below (by assumption) (by assumption))
   clear hK K
   try simp only [Act.put,List.setIfInBounds_toArray,List.set_cons_zero,List.set_cons_succ]
   refine wpAnyH_ready (rs:=[13]) (by kernel_rfl) (by simp) ?_
   refine consL (by rfl) (fun K hK=>?_) AllReadyH.nil
   go_simp
   go_at_call 8
   refine (r_Strings hstl hstm hl2).mono ?_
   rintro e u7 ⟨rfl,hb⟩
   refine hK.out _ _ ?_ (fun hHeld=>?_)
   · try dsimp only
     (first | exact oc_drew HOM.out | exact oc_below (by assumption) (by assumption))
   clear hK K
   try simp only [Act.put,List.setIfInBounds_toArray,List.set_cons_zero,List.set_cons_succ]
   refine takeL (i:=14) (v:=?_) (by rfl) (by kernel_rfl) (by kernel_rfl) (by kernel_rfl) (fun _ _ _ h=>h) (Or.inl ⟨by rfl,?_⟩) (by assumption) ?_
   rotate_left
   · intro w hSw
     try dsimp only at hSw
     go_simp <;> with_reducible rfl
   try simp only [Act.put,List.setIfInBounds_toArray,List.set_cons_zero,List.set_cons_succ]
   refine takeL (i:=15) (v:=?_) (by rfl) (by kernel_rfl) (by kernel_rfl) (by kernel_rfl) (fun _ _ _ h=>h) (Or.inl ⟨by rfl,?_⟩) (by assumption) ?_
   rotate_left
   · intro w hSw
     try dsimp only at hSw
     go_simp <;> with_reducible rfl
   try simp only [Act.put,List.setIfInBounds_toArray,List.set_cons_zero,List.set_cons_succ]
   refine takeL (i:=16) (v:=?_) (by rfl) (by kernel_rfl) (by kernel_rfl) (by kernel_rfl) (fun _ _ _ h=>h) (Or.inl ⟨by rfl,?_⟩) (by assumption) ?_
   rotate_left
   · intro w hSw
     try dsimp only at hSw
     go_simp <;> with_reducible rfl
   try simp only [Act.put,List.setIfInBounds_toArray,List.set_cons_zero,List.set_cons_succ]
   refine takeL (i:=17) (v:=?_) (by rfl) (by kernel_rfl) (by kernel_rfl) (by kernel_rfl) (fun _ _ _ h=>h) (Or.inl ⟨by rfl,?_⟩) (by assumption) ?_
   rotate_left
   · intro w hSw
     try dsimp only at hSw
     go_simp <;> with_reducible rfl
   try simp only [Act.put,List.setIfInBounds_toArray,List.set_cons_zero,List.set_cons_succ]
   refine takeL (i:=18) (v:=?_) (by rfl) (by kernel_rfl) (by kernel_rfl) (by kernel_rfl) (fun _ _ _ h=>h) (Or.inl ⟨by rfl,?_⟩) (by assumption) ?_
   rotate_left
   · intro w hSw
     try dsimp only at hSw
     go_simp <;> with_reducible rfl
   try simp only [Act.put,List.setIfInBounds_toArray,List.set_cons_zero,List.set_cons_succ]
   refine takeL (i:=19) (v:=undef) (by rfl) (by kernel_rfl) (by kernel_rfl) (by kernel_rfl) (fun _ _ _ h=>h) (Or.inr ⟨by rfl,rfl⟩) (by assumption) ?_
   try simp only [Act.put,List.setIfInBounds_toArray,List.set_cons_zero,List.set_cons_succ]
   refine takeL (i:=20) (v:=undef) (by rfl) (by kernel_rfl) (by kernel_rfl) (by kernel_rfl) (fun _ _ _ h=>h) (Or.inr ⟨by rfl,rfl⟩) (by assumption) ?_
   try simp only [Act.put,List.setIfInBounds_toArray,List.set_cons_zero,List.set_cons_succ]
   refine takeL (i:=21) (v:=undef) (by rfl) (by kernel_rfl) (by kernel_rfl) (by kernel_rfl) (fun _ _ _ h=>h) (Or.inr ⟨by rfl,rfl⟩) (by assumption) ?_
   try simp only [Act.put,List.setIfInBounds_toArray,List.set_cons_zero,List.set_cons_succ]
   refine takeL (i:=22) (v:=undef) (by rfl) (by kernel_rfl) (by kernel_rfl) (by kernel_rfl) (fun _ _ _ h=>h) (Or.inr ⟨by rfl,rfl⟩) (by assumption) ?_
   try simp only [Act.put,List.setIfInBounds_toArray,List.set_cons_zero,List.set_cons_succ]
   refine takeL (i:=23) (v:=?_) (by rfl) (by kernel_rfl) (by kernel_rfl) (by kernel_rfl) (fun _ _ _ h=>h) (Or.inl ⟨by rfl,?_⟩) (by assumption) ?_
   rotate_left
   · intro w hSw
     try dsimp only at hSw
     go_simp <;> with_reducible rfl
   try simp only [Act.put,List.setIfInBounds_toArray,List.set_cons_zero,List.set_cons_succ]
   refine takeL (i:=24) (v:=?_) (by rfl) (by kernel_rfl) (by kernel_rfl) (by kernel_rfl) (fun _ _ _ h=>h) (Or.inl ⟨by rfl,?_⟩) (by assumption) ?_
   rotate_left
   · intro w hSw
     try dsimp only at hSw
     go_simp <;> with_reducible rfl
   try simp only [Act.put,List.setIfInBounds_toArray,List.set_cons_zero,List.set_cons_succ]
   refine takeL (i:=25) (v:=?_) (by rfl) (by kernel_rfl) (by kernel_rfl) (by kernel_rfl) (fun _ _ _ h=>h) (Or.inl ⟨by rfl,?_⟩) (by assumption) ?_
   rotate_left
   · intro w hSw
     try dsimp only at hSw
     go_simp <;> with_reducible rfl
   try simp only [Act.put,List.setIfInBounds_toArray,List.set_cons_zero,List.set_cons_succ]
   refine wpAnyH_done (by kernel_rfl) (NoPanic.normal ?_) _
   have HF:=Lib.hid (oc_om (by assumption:Oc x y w gb mb kb bb pb gb p1 p2 p3 k1 k2 k3 b1 b2 b3 m1 m2 m3 g1 g2 g3 a1 a2 a3 pm1 pt1 pm2 pt2 pm3 pt3 km1 kt1 km2 kt2 km3 kt3 bm1 bt1 bm2 bt2 bm3 bt3 mm1 mt1 mm2 mt2 mm3 mt3 gm1 gt1 gm2 gt2 gm3 gt3 n1 c1 n2 c2 n3 c3 _)).bx.bel
   go_wp2_with fail
   go_ret
   exact ⟨rfl,HF.out⟩
 · have hz1 : (z == 0) = false := by simpa using hz0
   have hb1:((bm3:Int)==0)=true:=by simp [hb0]
   clear hb0 hz0
   go_upto_region 9 with (fail)
   first
    | (go_region_held3 (fun X=>X.cell? ⟨mb,0,none⟩=some (.slice m1 mm1 mt1)∧X.cell? ⟨mb,1,none⟩=some (.slice m2 mm2 mt2)∧X.cell? ⟨mb,2,none⟩=some (.slice m3 mm3 mt3)∧X.cell? ⟨kb,0,none⟩=some (.slice k1 km1 kt1)∧X.cell? ⟨kb,1,none⟩=some (.slice k2 km2 kt2)∧X.cell? ⟨kb,2,none⟩=some (.slice k3 km3 kt3)∧X.cell? ⟨bb,0,none⟩=some (.slice b1 bm1 bt1)∧X.cell? ⟨bb,1,none⟩=some (.slice b2 bm2 bt2)∧X.cell? ⟨bb,2,none⟩=some (.slice b3 bm3 bt3)∧X.cell? ⟨pb,0,none⟩=some (.slice p1 pm1 pt1)∧X.cell? ⟨pb,1,none⟩=some (.slice p2 pm2 pt2)∧X.cell? ⟨pb,2,none⟩=some (.slice p3 pm3 pt3)∧X.cell? ⟨w.heap.size,0,none⟩=some (.slice a1 n1 c1)∧X.cell? ⟨w.heap.size,1,none⟩=some (.slice a2 n2 c2)∧X.cell? ⟨w.heap.size,2,none⟩=some (.slice a3 n3 c3)∧Om x y w gb mb kb bb pb gb p1 p2 p3 k1 k2 k3 b1 b2 b3 m1 m2 m3 g1 g2 g3 a1 a2 a3 pm1 pt1 pm2 pt2 pm3 pt3 km1 kt1 km2 kt2 km3 kt3 bm1 bt1 bm2 bt2 bm3 bt3 mm1 mt1 mm2 mt2 mm3 mt3 gm1 gt1 gm2 gt2 gm3 gt3 n1 c1 n2 c2 n3 c3 X) (first | exact oc_drew HOM.out | exact oc_below (by assumption) (by assumption)) (first
   | (go_at_call_of 11 (Value.slice k1 km1 kt1)
      refine (H33.out _ (by assumption)).mono ?_
      rintro e u9 ⟨rfl,hb⟩)
   | (go_at_call_of 11 (Value.slice m1 mm1 mt1)
      refine (H34.out _ (by assumption)).mono ?_
      rintro e u9 ⟨rfl,hb⟩)
   | (go_at_call_of 9 (Value.slice a1 n1 c1)
      refine (H35.out _ (by assumption)).mono ?_
      rintro e u9 ⟨la,l,lc,rfl,hNL,hl2,⟨lbs,hst⟩,hb⟩)
   | (go_at_call_of 9 (Value.slice k1 km1 kt1)
      refine (H36.out _ (by assumption)).mono ?_
      rintro e u8 ⟨ma,m,mc,hem,hNM,hm2,⟨mbs,hstm⟩,hb⟩
      have hml:m=l:=nl_one (L:=nmP x) hNM.1 hNL.1 (fun s=>(hNM.2 s).trans (hNL.2 s).symm)
      rw [hml] at hem hstm
      subst hem
      have hstl:=strsAt_below hst hb)
   | (go_at_call 8
      refine (r_Strings hstl hstm hl2).mono ?_
      rintro e u7 ⟨rfl,hb⟩)))
     | fail
   have HF:=Lib.hid (oc_om (by assumption:Oc x y w gb mb kb bb pb gb p1 p2 p3 k1 k2 k3 b1 b2 b3 m1 m2 m3 g1 g2 g3 a1 a2 a3 pm1 pt1 pm2 pt2 pm3 pt3 km1 kt1 km2 kt2 km3 kt3 bm1 bt1 bm2 bt2 bm3 bt3 mm1 mt1 mm2 mt2 mm3 mt3 gm1 gt1 gm2 gt2 gm3 gt3 n1 c1 n2 c2 n3 c3 _)).bx.bel
   go_wp2_with fail
   go_ret
   exact ⟨rfl,HF.out⟩
end Go.Proofs.YtkheldgmpgefiaaGreatDoor

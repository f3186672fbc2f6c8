/- The proof, part 25: texts that belong together, in one. -/
import Derived.Test.YtggbkldniffbfaaGreatDoorUAX
import Derived.Test.YtggbkldniffbfaaGreatDoorUAC
import Derived.Test.YtggbkldniffbfaaGreatDoorUAQ
import Derived.Test.YtggbkldniffbfaaGreatDoorUAS
import Derived.Test.YtggbkldniffbfaaGreatDoorUAO
set_option maxRecDepth 100000
set_option maxHeartbeats 20000000
namespace Go.Proofs.YtggbkldniffbfaaGreatDoor
set_option linter.unusedVariables false
section
variable {fnd:Bs→Int × Bool} {L:Int}
end
theorem bare_sameS:∀ (s y:St),s.bare=y.bare→sameS s y=true:=by
 intro s
 induction s using St.ind with
 | h k n o e b l p ihb ihl =>
   intro y hy
   obtain ⟨k',n',o',e',b',l',p'⟩:=y
   simp only [St.bare,St.mk.injEq] at hy
   obtain ⟨rfl,rfl,rfl,he,hb,hl,_⟩:=hy
   simp only [sameS,beq_self_eq_true,Bool.true_and,Bool.and_eq_true]
   have ex:∀ (l m:List Ex),exsBare l=exsBare m→sameEs l m=true:=by
    intro l
    induction l with
    | nil => intro m hm; cases m with
      | nil=>rfl
      | cons=>simp [exsBare] at hm
    | cons x r ih => intro m hm; cases m with
      | nil=>simp [exsBare] at hm
      | cons y s =>
        simp only [exsBare,List.cons.injEq] at hm
        simp only [sameEs,Bool.and_eq_true]
        exact ⟨bare_same x y hm.1,ih s hm.2⟩
   have st:∀ (l m:List St),(∀ x∈l,∀ y:St,x.bare=y.bare→sameS x y=true)→stsBare l=stsBare m→sameSs l m=true:=by
    intro l
    induction l with
    | nil => intro m _ hm; cases m with
      | nil=>rfl
      | cons=>simp [stsBare] at hm
    | cons x r ih => intro m hi hm; cases m with
      | nil=>simp [stsBare] at hm
      | cons y s =>
        simp only [stsBare,List.cons.injEq] at hm
        simp only [sameSs,Bool.and_eq_true]
        exact ⟨hi x (.head _) y hm.1,ih s (fun z hz=>hi z (.tail _ hz)) hm.2⟩
   exact ⟨⟨ex _ _ he,st _ _ ihb hb⟩,st _ _ ihl hl⟩
theorem bare_by {α:Type} {f:α→α→Bool} {g:α→α} (h:∀ x y,g x=g y→f x y=true):∀ (l m:List α),l.map g=m.map g→sameBy f l m=true
 | [],[],_=>rfl
 | [],_::_,h=>by simp at h
 | _::_,[],h=>by simp at h
 | x :: r, y :: s, hm => by
   simp only [List.map_cons,List.cons.injEq] at hm
   simp only [sameBy,Bool.and_eq_true]
   exact ⟨h x y hm.1,bare_by h r s hm.2⟩
theorem bare_sameSs (l m:List St) (h:stsBare l=stsBare m):sameSs l m=true:=by
 induction l generalizing m with
 | nil => cases m with
   | nil=>rfl
   | cons=>simp [stsBare] at h
 | cons x r ih => cases m with
   | nil=>simp [stsBare] at h
   | cons y s =>
     simp only [stsBare,List.cons.injEq] at h
     simp only [sameSs,Bool.and_eq_true]
     exact ⟨bare_sameS x y h.1,ih s h.2⟩
theorem bare_sameD (a b:Dc) (h:a.bare=b.bare):sameD a b=true:=by
 simp only [Dc.bare,Dc.mk.injEq] at h
 unfold sameD
 rw [h.1,h.2.1]
 simp
theorem bare_sameT (a b:Th) (h:a.bare=b.bare):sameT a b=true:=by
 simp only [Th.bare,Th.mk.injEq] at h
 unfold sameT
 rw [h.1,bare_by bare_sameD _ _ h.2.1,bare_sameSs _ _ h.2.2.1]
 simp
theorem bare_samePg (a b:Pg) (h:a.bare=b.bare):samePg a b=true:=by
 simp only [Pg.bare,Pg.mk.injEq] at h
 unfold samePg
 rw [bare_by bare_sameD _ _ h.1,bare_by bare_sameD _ _ h.2.1,bare_by bare_sameT _ _ h.2.2]
 rfl
open Go.RowKit
set_option linter.unusedVariables false
def Rz (B:Nat) (w0:World) (b:Nat):Prop:=B≤b∧b<w0.heap.size∧Uf w0 b
structure Zp (B:Nat) (w0:World) (V:List Vz) (W:World):Prop where
 low:B≤w0.heap.size
 below:Below B w0 W
 free:∀ b,Rz B w0 b→Uf W b
 ok:∀ z∈V,Vok (Rz B w0) w0 z
 zero:∀ z∈V,W.cell? z.pl=some (.int .i64 0)
 stay:∀ g o v,w0.cell? ⟨g,o,none⟩=some v→(∀ z∈V,z.pl≠⟨g,o,none⟩)→W.cell? ⟨g,o,none⟩=some v
 row:∀ b,b<w0.heap.size→(∀ z∈V,z.pl.block≠b)→W.heap[b]? = w0.heap[b]?
theorem zp_nil {B:Nat} {w0:World} (h:B≤w0.heap.size):Zp B w0 [] w0:=⟨h,Below.refl _ _,fun _ hb=>hb.2.2,fun z hz=>absurd hz (by simp),fun z hz=>absurd hz (by simp),fun _ _ _ h _=>h,fun _ _ _=>rfl⟩
theorem vok_lt {R:Nat→Prop} {w:World} {z:Vz} (h:Vok R w z):z.pl.block<w.heap.size:=by
 obtain ⟨n,hn⟩:=h.pl
 exact cell_lt hn
theorem zp_keep {B:Nat} {w0 W W':World} {V:List Vz} (h:Zp B w0 V W) (hb:Below W.heap.size W W'):Zp B w0 V W':=by
 have hs:=h.below.size
 refine ⟨h.low,h.below.trans (hb.mono (Nat.le_trans h.low hs)),fun b hr=>uf_below (h.free b hr) hb (Nat.lt_of_lt_of_le hr.2.1 hs),h.ok,fun z hz=>?_,fun g o v hv hn=>?_,fun b hl hn=>?_⟩
 · rw [hb.cell (p:=z.pl) (Nat.lt_of_lt_of_le (vok_lt (h.ok z hz)) hs)];exact h.zero z hz
 · rw [hb.cell (p:=⟨g,o,none⟩) (Nat.lt_of_lt_of_le (cell_lt hv) hs)];exact h.stay g o v hv hn
 · rw [hb.block b (by omega)];exact h.row b hl hn
theorem zp_sk {B:Nat} {w0 W:World} {V:List Vz} (h:Zp B w0 V W):Sk w0 W:=⟨h.below.size,fun g o v hv hk=>h.stay g o v hv fun z hz e=>by
 obtain ⟨n,hn⟩:=(h.ok z hz).pl
 rw [e,hv] at hn
 have hn:=Option.some.inj hn
 subst hn
 rcases hk with ⟨k,hk⟩ | ⟨a,l,c,hk⟩ <;> cases hk⟩
theorem zp_step {B:Nat} {w0 W:World} {V:List Vz} {v:Vz} {s:Value} (h:Zp B w0 V W) (hv:Vok (Rz B w0) w0 v):Calls Tryz.prog 37 #[.pointer (some v.pl),s] W fun e W'=>e=.returned (.tuple #[])∧Zp B w0 (V++[v]) W'∧∀ b,w0.heap.size≤b→b<W.heap.size→W'.heap[b]? = W.heap[b]?:=by
 obtain ⟨⟨g,o,sp⟩,nm⟩:=v
 obtain rfl:sp=none:=hv.spot
 obtain ⟨n,hn⟩:=hv.pl
 simp only at hn ⊢
 have hlt:g<w0.heap.size:=cell_lt hn
 have hc:∃ m,W.cell? ⟨g,o,none⟩=some (.int .i64 m):=by
  by_cases hz:∃ z∈V,z.pl=⟨g,o,none⟩
  · obtain ⟨z, hz, e⟩ := hz
    exact ⟨0,by rw [← e];exact h.zero z hz⟩
  · exact ⟨n,h.stay g o _ hn fun z hz' e=>hz ⟨z,hz',e⟩⟩
 obtain ⟨m,hm⟩:=hc
 have hf:W.frozen? ⟨g,o,none⟩=false:=h.free g hv.reg o
 have HF:Hid (Zp B w0 (V++[⟨⟨g,o,none⟩,nm⟩]) (W.setCell ⟨g,o,none⟩ (.int .i64 0))∧∀ b,w0.heap.size≤b→b<W.heap.size→(W.setCell ⟨g,o,none⟩ (.int .i64 0)).heap[b]? = W.heap[b]?):=by
  refine ⟨⟨h.low,h.below.setCell hv.reg.1 _,fun b hr=>uf_setCell (h.free b hr) _ _,fun z hz=>?_,fun z hz=>?_,fun g' o' u hu hn'=>?_,fun b hl hn'=>?_⟩,fun b hb _=>Below.heap_setCell _ _ _ _ (by show b≠g;omega)⟩
  · rcases List.mem_append.1 hz with hz | hz
    · exact h.ok z hz
    · obtain rfl : z = _ := by simpa using hz
      exact hv
  · rcases List.mem_append.1 hz with hz | hz
    · by_cases e : (⟨g, o, none⟩ : Addr) = z.pl
      · rw [← e];exact World.cell?_setCell_same _ _ _ hm
      · rw [World.cell?_setCell_other _ _ _ _ e];exact h.zero z hz
    · obtain rfl : z = _ := by simpa using hz
      exact World.cell?_setCell_same _ _ _ hm
  · have hne : (⟨g, o, none⟩ : Addr) ≠ ⟨g', o', none⟩ := hn' ⟨⟨g, o, none⟩, nm⟩ (by simp)
    rw [World.cell?_setCell_other _ _ _ _ hne]
    exact h.stay g' o' u hu fun z hz=>hn' z (by simp [hz])
  · have hne : g ≠ b := hn' ⟨⟨g, o, none⟩, nm⟩ (by simp)
    rw [Below.heap_setCell _ _ _ _ (by show b≠g;omega)]
    exact h.row b hl fun z hz=>hn' z (by simp [hz])
 clear h hv hn hlt
 go_enter Tryz.func37,Tryz.ntmps37
 go_wp2_with fail
 exact bodyPost_end (results_none rfl _ _ _) rfl ⟨rfl,HF.out⟩
theorem vp_zp (B:Nat) (w0:World):Vp (Rz B w0) w0 (Zp B w0):=⟨fun h hb=>zp_keep h hb,zp_sk,fun h hv _=>zp_step h hv⟩
theorem zp_word {B:Nat} {w0 W:World} {V:List Vz} (h:Zp B w0 V W) {g o:Nat} {u v:Value} (hu:w0.cell? ⟨g,o,none⟩=some u) (hp:preN u) (hv:w0.cell? ⟨g,o+1,none⟩=some v):W.cell? ⟨g,o+1,none⟩=some v :=
 h.stay g _ v hv fun z hz e=>by
  obtain ⟨q,u',e1,h1,h2⟩:=(h.ok z hz).is
  rw [e] at e1 h1
  simp only at e1 h1
  obtain rfl:o=q:=by omega
  rw [hu] at h1
  obtain rfl:=Option.some.inj h1
  exact h2 hp
theorem zp_other {B:Nat} {w0 W:World} {V:List Vz} (h:Zp B w0 V W) {g o:Nat} {v:Value} (hv:w0.cell? ⟨g,o,none⟩=some v) (hn:∀ n,v ≠ .int .i64 n):W.cell? ⟨g,o,none⟩=some v :=
 h.stay g _ v hv fun z hz e=>by
  obtain ⟨n,hz⟩:=(h.ok z hz).pl
  rw [e,hv] at hz
  exact hn n (Option.some.inj hz)
theorem u8_ne {k n:Int} : Value.int .u8 k ≠ .int .i64 n:=fun h=>by cases h
theorem str_ne {s:ByteArray} {n:Int} : Value.string s ≠ .int .i64 n:=fun h=>by cases h
theorem sl_ne {a:Option Addr} {l c:Nat} {n:Int} : Value.slice a l c ≠ .int .i64 n:=fun h=>by cases h
theorem exsBare_map:∀ l:List Ex,exsBare l=l.map Ex.bare
 | []=>rfl
 | x::r=>by rw [exsBare,exsBare_map r];rfl
theorem stsBare_map:∀ l:List St,stsBare l=l.map St.bare
 | []=>rfl
 | x::r=>by rw [stsBare,stsBare_map r];rfl
section
variable {B:Nat} {w0 W:World} {V:List Vz}
theorem rz_rf (h:Zp B w0 V W) {b:Nat} (hb:Rz B w0 b):Rf B W b:=⟨hb.1,h.free b hb⟩
theorem exsIn_zp (h:Zp B w0 V W):∀ (l:List Ex) (g o:Nat),exsIn (Rz B w0) w0 l g o→(∀ z∈vEs w0 l g o,z∈V)→exsIn (Rf B W) W (exsBare l) g o:=by
 intro l
 induction l using Exs.ind with
 | h0=>intro g o _ _;exact trivial
 | h1 k op wd nm ks p r ih1 ih2 =>
   intro g o hi hz
   obtain ⟨⟨c0,c1,c2,c3,⟨a,cap,c4,h4⟩,c5⟩,hr⟩:=hi
   have hk:=kE_of c4 h4
   simp only [vEs,vE] at hz
   rw [hk] at hz
   have z1:∀ z∈vEsA w0 ks a,z∈V:=fun z hm=>hz z (by simp [hm])
   refine ⟨⟨zp_other h c0 (fun _=>u8_ne),zp_other h c1 (fun _=>u8_ne),zp_word h c1 (.inl ⟨_,rfl⟩) c2,zp_other h c3 (fun _=>str_ne),⟨a,cap,by rw [exsBare_map,List.length_map];exact zp_other h c4 (fun _=>sl_ne),?_⟩,h.zero ⟨⟨g,o+5,none⟩,_⟩ (hz _ (List.mem_append_left _ List.mem_cons_self))⟩,ih2 g _ hr (fun z hm=>hz z (by simp [hm]))⟩
   rcases h4 with h4 | ⟨g',q,rfl,hg,hi⟩
   · obtain rfl : ks = [] := by simpa using h4
     exact .inl rfl
   · exact .inr ⟨g',q,rfl,rz_rf h hg,ih1 g' q hi z1⟩
theorem exsAt_zp (h:Zp B w0 V W) {l:List Ex} {a:Option Addr} (hi:exsAt (Rz B w0) w0 l a) (hz:∀ z∈vEsA w0 l a,z∈V):exsAt (Rf B W) W (exsBare l) a:=by
 rcases hi with h4 | ⟨g',q,rfl,hg,hi⟩
 · obtain rfl : l = [] := by simpa using h4
   exact .inl rfl
 · exact .inr ⟨g',q,rfl,rz_rf h hg,exsIn_zp h l g' q hi hz⟩
theorem stsIn_zp (h:Zp B w0 V W):∀ (l:List St) (g o:Nat),stsIn (Rz B w0) w0 l g o→(∀ z∈vSs w0 l g o,z∈V)→stsIn (Rf B W) W (stsBare l) g o:=by
 intro l
 induction l using Sts.ind with
 | h0=>intro g o _ _;exact trivial
 | h1 k nm ot es bo el p r ih1 ih2 ih3 =>
   intro g o hi hz
   obtain ⟨⟨c0,c1,c2,⟨a3,p3,c3,h3⟩,⟨a4,p4,c4,h4⟩,⟨a5,p5,c5,h5⟩,c6⟩,hr⟩:=hi
   simp only [vSs,vS] at hz
   rw [kE_of c3 h3,kS_of c4 h4,kS_of c5 h5] at hz
   have z3:∀ z∈vEsA w0 es a3,z∈V:=fun z hm=>hz z (by simp [hm])
   have z4:∀ z∈vSsA w0 bo a4,z∈V:=fun z hm=>hz z (by simp [hm])
   have z5:∀ z∈vSsA w0 el a5,z∈V:=fun z hm=>hz z (by simp [hm])
   have hk:∀ {ks:List St} {a:Option Addr} (ih:∀ (g o:Nat),stsIn (Rz B w0) w0 ks g o→(∀ z∈vSs w0 ks g o,z∈V)→stsIn (Rf B W) W (stsBare ks) g o) (h4:stsAt (Rz B w0) w0 ks a) (hz:∀ z∈vSsA w0 ks a,z∈V),stsAt (Rf B W) W (stsBare ks) a:=by
    intro ks a ih h4 hz
    rcases h4 with h4 | ⟨g',q,rfl,hg,hi⟩
    · obtain rfl : ks = [] := by simpa using h4
      exact .inl rfl
    · exact .inr ⟨g',q,rfl,rz_rf h hg,ih g' q hi hz⟩
   exact ⟨⟨zp_other h c0 (fun _=>u8_ne),zp_other h c1 (fun _=>str_ne),zp_other h c2 (fun _=>str_ne),⟨a3,p3,by rw [exsBare_map,List.length_map];exact zp_other h c3 (fun _=>sl_ne),exsAt_zp h h3 z3⟩,⟨a4,p4,by rw [stsBare_map,List.length_map];exact zp_other h c4 (fun _=>sl_ne),hk ih1 h4 z4⟩,⟨a5,p5,by rw [stsBare_map,List.length_map];exact zp_other h c5 (fun _=>sl_ne),hk ih2 h5 z5⟩,h.zero ⟨⟨g,o+6,none⟩,_⟩ (hz _ (List.mem_append_left _ List.mem_cons_self))⟩,ih3 g _ hr (fun z hm=>hz z (by simp [hm]))⟩
theorem stsAt_zp (h:Zp B w0 V W) {l:List St} {a:Option Addr} (hi:stsAt (Rz B w0) w0 l a) (hz:∀ z∈vSsA w0 l a,z∈V):stsAt (Rf B W) W (stsBare l) a:=by
 rcases hi with h4 | ⟨g',q,rfl,hg,hi⟩
 · obtain rfl : l = [] := by simpa using h4
   exact .inl rfl
 · exact .inr ⟨g',q,rfl,rz_rf h hg,stsIn_zp h l g' q hi hz⟩
theorem dcsIn_zp (h:Zp B w0 V W):∀ (l:List Dc) (g o:Nat),dcsIn w0 l g o→(∀ z∈vDs w0 l g o,z∈V)→dcsIn W (l.map Dc.bare) g o
 | [],_,_,_,_=>trivial
 | ⟨nm, wd, p⟩ :: r, g, o, ⟨⟨c0, c1, c2⟩, hr⟩, hz => by
   simp only [vDs,vD] at hz
   exact ⟨⟨zp_other h c0 (fun _=>str_ne),zp_word h c0 (.inr ⟨_,rfl⟩) c1,h.zero ⟨⟨g,o+2,none⟩,_⟩ (hz _ (List.mem_append_left _ List.mem_cons_self))⟩,dcsIn_zp h r g _ hr (fun z hm=>hz z (by simp [hm]))⟩
theorem dcsAt_zp (h:Zp B w0 V W) {l:List Dc} {a:Option Addr} (hi:dcsAt (Rz B w0) w0 l a) (hz:∀ z∈vDsA w0 l a,z∈V):dcsAt (Rf B W) W (l.map Dc.bare) a:=by
 rcases hi with h4 | ⟨g',q,rfl,hg,hi⟩
 · obtain rfl : l = [] := by simpa using h4
   exact .inl rfl
 · exact .inr ⟨g',q,rfl,rz_rf h hg,dcsIn_zp h l g' q hi hz⟩
theorem thsIn_zp (h:Zp B w0 V W):∀ (l:List Th) (g o:Nat),thsIn (Rz B w0) w0 l g o→(∀ z∈vTs w0 l g o,z∈V)→thsIn (Rf B W) W (l.map Th.bare) g o
 | [],_,_,_,_=>trivial
 | ⟨nm, lo, bo, p⟩ :: r, g, o, ⟨⟨c0, ⟨a1, p1, c1, h1⟩, ⟨a2, p2, c2, h2⟩, c3⟩, hr⟩, hz => by
   simp only [vTs,vT] at hz
   rw [kD_of c1 h1,kS_of c2 h2] at hz
   have z1:∀ z∈vDsA w0 lo a1,z∈V:=fun z hm=>hz z (by simp [hm])
   have z2:∀ z∈vSsA w0 bo a2,z∈V:=fun z hm=>hz z (by simp [hm])
   exact ⟨⟨zp_other h c0 (fun _=>str_ne),⟨a1,p1,by have:=zp_other h c1 (fun _=>sl_ne);simpa [Th.bare] using this,dcsAt_zp h h1 z1⟩,⟨a2,p2,by have:=zp_other h c2 (fun _=>sl_ne);simpa [Th.bare,stsBare_map] using this,stsAt_zp h h2 z2⟩,h.zero ⟨⟨g,o+3,none⟩,_⟩ (hz _ (List.mem_append_left _ List.mem_cons_self))⟩,thsIn_zp h r g _ hr (fun z hm=>hz z (by simp [hm]))⟩
theorem thsAt_zp (h:Zp B w0 V W) {l:List Th} {a:Option Addr} (hi:thsAt (Rz B w0) w0 l a) (hz:∀ z∈vTsA w0 l a,z∈V):thsAt (Rf B W) W (l.map Th.bare) a:=by
 rcases hi with h4 | ⟨g',q,rfl,hg,hi⟩
 · obtain rfl : l = [] := by simpa using h4
   exact .inl rfl
 · exact .inr ⟨g',q,rfl,rz_rf h hg,thsIn_zp h l g' q hi hz⟩
theorem own_zp (h:Zp B w0 V W) {g:Nat} {r:Array Value} {T:TypeId} (ho:Own w0 g T r) (hr:∀ (o:Nat) (n:Int),r[o]? ≠ some (Value.int .i64 n)):Own W g T r :=
 (h.row g ho.lt fun z hz e=>by
  obtain ⟨n,hn⟩:=(h.ok z hz).pl
  have hs:=(h.ok z hz).spot
  obtain ⟨⟨b,o,sp⟩,nm⟩:=z
  simp only at e hn hs
  subst e hs
  rw [cell_of_row _ _ o _ _ _ ho] at hn
  exact hr o n hn).trans ho
end
theorem rz_of {B B':Nat} {w:World} (hB:B≤B') {b:Nat} (h:Rf B' w b∧b<w.heap.size):Rz B w b:=⟨Nat.le_trans hB h.1.1,h.2,h.1.2⟩
open Go.RowKit
set_option linter.unusedVariables false
def StpP (x:Pg) (w:World) (e:Ending) (w':World):Prop:=∃ s1 t1 s2 t2 s3 t3,e=.returned (.agg #[.slice s1 x.shared.length t1,.slice s2 x.locks.length t2,.slice s3 x.threads.length t3])∧dcsAt (Rf w.heap.size w') w' (x.shared.map Dc.bare) s1∧dcsAt (Rf w.heap.size w') w' (x.locks.map Dc.bare) s2∧thsAt (Rf w.heap.size w') w' (x.threads.map Th.bare) s3∧Below w.heap.size w w'
theorem p_Strip (x:Pg) (hf:fitP x) (hok:okP x) {v:Value} {w:World} (hv:pA w x v):Calls Tryz.prog 15 #[v] w (StpP x w):=by
 have HCP:Hid (∀ W,Below w.heap.size w W→Calls Tryz.prog 35 #[v] W (CpyP x W)):=fun W hW=>p_CopyF x hf (pA_below hv hW)
 have HEP:Hid (∀ (W:World) s1 t1 s2 t2 s3 t3,w.heap.size+2≤W.heap.size→dcsAt (Rz (w.heap.size+2) W) W x.shared s1→dcsAt (Rz (w.heap.size+2) W) W x.locks s2→thsAt (Rz (w.heap.size+2) W) W x.threads s3→Calls Tryz.prog 36 #[.agg #[.slice s1 x.shared.length t1,.slice s2 x.locks.length t2,.slice s3 x.threads.length t3],.func (.func 37) #[] #[]] W fun e w'=>e=.returned (.tuple #[])∧∃ V,Zp (w.heap.size+2) W V w'∧dcsAt (Rf (w.heap.size+2) w') w' (x.shared.map Dc.bare) s1∧dcsAt (Rf (w.heap.size+2) w') w' (x.locks.map Dc.bare) s2∧thsAt (Rf (w.heap.size+2) w') w' (x.threads.map Th.bare) s3):=fun W s1 t1 s2 t2 s3 t3 hl h1 h2 h3 =>
  (p_eachPart (vp_zp (w.heap.size+2) W) hok h1 h2 h3 (zp_nil hl)).mono fun e w' h=>⟨h.1,_,h.2,dcsAt_zp h.2 h1 (fun z hz=>by simp [hz]),dcsAt_zp h.2 h2 (fun z hz=>by simp [hz]),thsAt_zp h.2 h3 (fun z hz=>by simp [hz])⟩
 obtain ⟨a1,c1,a2,c2,a3,c3,rfl,_⟩:=hv
 show Calls _ _ _ _ (fun e w'=>∃ s1 t1 s2 t2 s3 t3,e=.returned (.agg #[.slice s1 x.shared.length t1,.slice s2 x.locks.length t2,.slice s3 x.threads.length t3])∧dcsAt (Rf w.heap.size w') w' (x.shared.map Dc.bare) s1∧dcsAt (Rf w.heap.size w') w' (x.locks.map Dc.bare) s2∧thsAt (Rf w.heap.size w') w' (x.threads.map Th.bare) s3∧Below w.heap.size w w')
 unfold CpyP at HCP
 generalize x.shared.length=n1 at *
 generalize x.locks.length=n2 at *
 generalize x.threads.length=n3 at *
 have HX:=Lib.hid (bx_new w 25 #[.slice a1 n1 c1,.slice a2 n2 c2,.slice a3 n3 c3] zPg)
 obtain ⟨W0,hW0⟩:∃ W,W=(w.alloc (.cells #[.slice a1 n1 c1,.slice a2 n2 c2,.slice a3 n3 c3] 25)).alloc (.cells zPg 25):=⟨_,rfl⟩
 rw [← hW0] at HX
 have HW0:=Lib.hid hW0
 clear hW0 hf hok
 go_enter Tryz.func15,Tryz.ntmps15
 go_upto_region 1 with (fail)
 rw [show (#[.slice none 0 0,.slice none 0 0,.slice none 0 0]:Array Value)=zPg from rfl,← HW0.out]
 have O1:=HX.out.1
 go_wp2_with (refine ld rowPg rfl rfl rfl O1 rfl ?_)
 go_at_call 35
 refine (HCP.out _ HX.out.2.2).mono ?_
 rintro e w2 ⟨s1,t1,s2,t2,s3,t3,rfl,e1,e2,e3,hb⟩
 have HX2:=Lib.hid (bx_below HX.out hb)
 have hlt:=bx_gt HX.out
 have hs2:w.heap.size+2≤w2.heap.size:=by have:=hb.size;omega
 have O3:=Own.new w2 25 #[.slice none 0 0,.slice none 0 0,.slice none 0 0]
 have B3:Below w2.heap.size w2 ((w2.alloc (.cells #[.slice none 0 0,.slice none 0 0,.slice none 0 0] 25)).setRow w2.heap.size #[.slice s1 n1 t1,.slice s2 n2 t2,.slice s3 n3 t3]):=Below.of_row ((Below.refl _ w2).alloc (Nat.le_refl _) _) (Nat.le_refl _) _
 have R3:=O3.row #[.slice s1 n1 t1,.slice s2 n2 t2,.slice s3 n3 t3]
 have HX3:=Lib.hid (bx_below HX2.out B3)
 obtain ⟨W3,hW3⟩:∃ W,W=(w2.alloc (.cells #[.slice none 0 0,.slice none 0 0,.slice none 0 0] 25)).setRow w2.heap.size #[.slice s1 n1 t1,.slice s2 n2 t2,.slice s3 n3 t3]:=⟨_,rfl⟩
 rw [← hW3] at B3 R3 HX3
 have B3':=B3
 have HW3:=Lib.hid hW3
 have HZ1:Hid (dcsAt (Rz (w.heap.size+2) W3) W3 x.shared s1):=dcsAt_stays (Stays.refl _ _) (fun b hb=>rz_of (B':=w.heap.size+2) (Nat.le_refl _) ⟨⟨hb.1.1,hb.1.2⟩,hb.2⟩) (dcsAt_in (dcsAt_rf e1 (chg_below B3) (by omega)))
 have HZ2:Hid (dcsAt (Rz (w.heap.size+2) W3) W3 x.locks s2):=dcsAt_stays (Stays.refl _ _) (fun b hb=>rz_of (B':=w.heap.size+2) (Nat.le_refl _) ⟨⟨hb.1.1,hb.1.2⟩,hb.2⟩) (dcsAt_in (dcsAt_rf e2 (chg_below B3) (by omega)))
 have HZ3:Hid (thsAt (Rz (w.heap.size+2) W3) W3 x.threads s3):=thsAt_stays (Stays.refl _ _) (fun b hb=>rz_of (B':=w.heap.size+2) (Nat.le_refl _) ⟨⟨hb.1.1,hb.1.2⟩,hb.2⟩) (thsAt_in (thsAt_rf e3 (chg_below B3) (by omega)))
 have HG:=Lib.hid R3
 have HS2:Hid (w.heap.size+2≤W3.heap.size):=Nat.le_trans hs2 B3'.size
 clear hW3 hb e1 e2 e3 HX HX2 O1 B3 B3' HCP hlt hs2 R3
 go_upto_region 2 with (refine st rowPg rfl rfl O3 rfl rfl (by rfl) (by rfl) (by kernel_rfl) ?_)
 rw [← HW3.out]
 clear HW3 O3
 have R3:=HG.out
 go_wp2_with (refine ld rowPg rfl rfl rfl R3 rfl ?_)
 go_at_call 36
 refine (HEP.out _ _ _ _ _ _ _ HS2.out HZ1.out HZ2.out HZ3.out).mono ?_
 rintro e w4 ⟨rfl,V,hz,k1,k2,k3⟩
 have hno:∀ (o:Nat) (n:Int),(#[.slice s1 n1 t1,.slice s2 n2 t2,.slice s3 n3 t3]:Array Value)[o]? ≠ some (.int .i64 n):=fun o n h=>by
  match o,h with
  | 0,h=>cases h
  | 1,h=>cases h
  | 2,h=>cases h
  | o+3,h=>simp at h
 have hno2:∀ (o:Nat) (n:Int),(zPg:Array Value)[o]? ≠ some (.int .i64 n):=fun o n h=>by
  match o,h with
  | 0,h=>cases h
  | 1,h=>cases h
  | 2,h=>cases h
  | o+3,h=>simp [zPg] at h
 have P4:=own_zp hz R3 hno
 have Q4:=own_zp hz HX3.out.2.1 hno2
 have HB4:=Lib.hid (HX3.out.2.2.trans (hz.below.mono (by omega)))
 have HK1:=Lib.hid k1
 have HK2:=Lib.hid k2
 have HK3:=Lib.hid k3
 clear hno hno2 hz k1 k2 k3 HZ1 HZ2 HZ3 HX3 R3 HG HEP
 go_wp2_with (first | (refine ld rowPg rfl rfl rfl P4 rfl ?_) | (refine st rowPg rfl rfl Q4 rfl rfl (by rfl) (by rfl) (by kernel_rfl) ?_))
 refine p_ret rowPg rfl (Q4.row #[.slice s1 n1 t1,.slice s2 n2 t2,.slice s3 n3 t3]) rfl rfl rfl ?_
 have hst:Chg (w.heap.size+2) w4 (w4.setRow (w.heap.size+1) #[.slice s1 n1 t1,.slice s2 n2 t2,.slice s3 n3 t3]):=chg_setRow w4 _ (by omega)
 exact ⟨s1,t1,s2,t2,s3,t3,rfl,dcsAt_rf HK1.out hst (by omega),dcsAt_rf HK2.out hst (by omega),thsAt_rf HK3.out hst (by omega),Below.of_row HB4.out (by omega) _⟩
set_option linter.unusedVariables false
def O1 (d:Int) (e:Ex):Prop:=rgE e∧rE e d=true∧(e.kind=4→rE e (d+1)=true)
def B1 (v d:Int) (e:Ex):Prop:=rgE e∧rE e d=true∧(e.kind=4→v≤levelOf e.op∨rE e (d+1)=true)
section
variable {L:Int}
end
set_option linter.unusedVariables false
section
variable {L:Int}
end
theorem same_tE:∀ x y:Ex,sameE x y=true→tE x=tE y∧x.kind=y.kind∧x.op=y.op:=by
 intro x
 induction x using Ex.ind with
 | h k o wd nm ks ps ih =>
   intro y h
   obtain ⟨k',o',wd',nm',ks',ps'⟩:=y
   simp only [sameE,Bool.and_eq_true,beq_iff_eq] at h
   obtain ⟨⟨⟨⟨rfl,rfl⟩,rfl⟩,hn⟩,hk⟩:=h
   have hn:nm=nm':=ByteArray.ext (Array.ext' hn)
   subst hn
   refine ⟨?_,rfl,rfl⟩
   have hl:=sameEs_len _ _ hk
   simp only [tE]
   unfold tK
   have e1:kid1T ks (tEs ks)=kid1T ks' (tEs ks'):=by
    match ks,ks',hl,hk with
    | [],[],_,_=>rfl
    | [x], [y], _, hk =>
      simp only [sameEs,Bool.and_true] at hk
      have:=ih x (.head _) y hk
      show kidT (x.kind==4) (tE x)=kidT (y.kind==4) (tE y)
      rw [this.1,this.2.1]
    | x::y::r,x'::y'::r',_,hk=>rfl
   have e2:kid2T o ks (tEs ks)=kid2T o ks' (tEs ks'):=by
    match ks,ks',hl,hk with
    | [],[],_,_=>rfl
    | [x],[y],_,hk=>rfl
    | [x, z], [y, u], _, hk =>
      simp only [sameEs,Bool.and_true,Bool.and_eq_true] at hk
      have a:=ih x (.head _) y hk.1
      have b:=ih z (.tail _ (.head _)) u hk.2
      show kidT (wrL o x) (tE x)++([32]++signOf o++[32])++kidT (wrR o z) (tE z)=kidT (wrL o y) (tE y)++([32]++signOf o++[32])++kidT (wrR o u) (tE u)
      unfold wrL wrR
      rw [a.1,a.2.1,a.2.2,b.1,b.2.1,b.2.2]
    | x::y::z::r,x'::y'::z'::r',_,hk=>rfl
   rw [e1,e2]
theorem same_e0:∀ l m:List Ex,sameEs l m=true→e0T l=e0T m
 | [],[],_=>rfl
 | [],_::_,h=>by simp [sameEs] at h
 | _::_,[],h=>by simp [sameEs] at h
 | x :: r, y :: s, h => by
   simp only [sameEs,Bool.and_eq_true] at h
   exact (same_tE x y h.1).1
theorem same_tSs_of:∀ (l m:List St),(∀ x∈l,∀ y,sameS x y=true→∀ d,tS x d=tS y d)→sameSs l m=true→(∀ d,tSs l d=tSs m d)∧l.length=m.length
 | [],[],_,_=>⟨fun _=>rfl,rfl⟩
 | [],_::_,_,h=>by simp [sameSs] at h
 | _::_,[],_,h=>by simp [sameSs] at h
 | x :: r, y :: s, hi, h => by
   simp only [sameSs,Bool.and_eq_true] at h
   have k:=same_tSs_of r s (fun z hz=>hi z (.tail _ hz)) h.2
   refine ⟨fun d=>?_,by simp [k.2]⟩
   show tS x d++tSs r d=tS y d++tSs s d
   rw [hi x (.head _) y h.1 d,k.1 d]
theorem same_tS:∀ x y:St,sameS x y=true→∀ d,tS x d=tS y d:=by
 intro x
 induction x using St.ind with
 | h k n o e b l ps ihb ihl =>
   intro y h d
   obtain ⟨k',n',o',e',b',l',p'⟩:=y
   simp only [sameS,Bool.and_eq_true,beq_iff_eq] at h
   obtain ⟨⟨⟨⟨⟨rfl,hn⟩,ho⟩,he⟩,hb⟩,hl⟩:=h
   have kb:=same_tSs_of _ _ ihb hb
   have kl:=same_tSs_of _ _ ihl hl
   simp only [tS,hn,ho,same_e0 _ _ he,kb.1 (d+1),kl.1 (d+1),kl.2]
theorem same_tSs (l m:List St) (h:sameSs l m=true) (d:Nat):tSs l d=tSs m d:=(same_tSs_of l m (fun x _=>same_tS x) h).1 d
theorem same_dParts (s:ByteArray):∀ (l m:List Dc),sameBy sameD l m=true→dParts s l=dParts s m∧l.length=m.length:=by
 have aux:∀ (l m:List Dc),sameBy sameD l m=true→∀ s,dParts s l=dParts s m∧l.length=m.length:=by
  intro l
  induction l with
  | nil => intro m h s; cases m with
    | nil=>exact ⟨rfl,rfl⟩
    | cons=>simp [sameBy] at h
  | cons x r ih => intro m h s; cases m with
    | nil=>simp [sameBy] at h
    | cons y t =>
      simp only [sameBy,Bool.and_eq_true] at h
      obtain ⟨n,w,p⟩:=x
      obtain ⟨n',w',p'⟩:=y
      have h1:=h.1
      simp only [sameD,Bool.and_eq_true,beq_iff_eq] at h1
      have hn:n=n':=ByteArray.ext (Array.ext' h1.1)
      have hw:w=w':=h1.2
      subst hn hw
      refine ⟨?_,by simp [(ih t h.2 s).2]⟩
      simp only [dParts,dPart]
      rw [(ih t h.2 _).1]
 exact fun l m h=>aux l m h s
theorem same_tDs (word:ByteArray) (l m:List Dc) (d:Nat) (h:sameBy sameD l m=true):tDs word l d=tDs word m d:=by
 unfold tDs
 rw [(same_dParts spS l m h).1,(same_dParts spS l m h).2]
theorem same_tT (x y:Th) (h:sameT x y=true):tT x=tT y:=by
 unfold sameT at h
 simp only [Bool.and_eq_true,beq_iff_eq] at h
 unfold tT
 rw [h.1.1,same_tDs _ _ _ _ h.1.2,same_tSs _ _ h.2]
theorem same_tTs:∀ (l m:List Th),sameBy sameT l m=true→l.flatMap tT=m.flatMap tT
 | [],[],_=>rfl
 | [],_::_,h=>by simp [sameBy] at h
 | _::_,[],h=>by simp [sameBy] at h
 | x :: r, y :: s, h => by
   simp only [sameBy,Bool.and_eq_true] at h
   rw [List.flatMap_cons,List.flatMap_cons,same_tT x y h.1,same_tTs r s h.2]
theorem same_tP {x y:Pg} (h:samePg x y=true):tP x=tP y:=by
 unfold samePg at h
 simp only [Bool.and_eq_true] at h
 unfold tP
 rw [same_tDs _ _ _ _ h.1.1,same_tDs _ _ _ _ h.1.2,same_tTs _ _ h.2]
open Go.RowKit
set_option linter.unusedVariables false
theorem bare_exs:∀ l:List Ex,exsBare (exsBare l)=exsBare l:=by
 intro l
 induction l using Exs.ind with
 | h0=>rfl
 | h1 k o wd nm ks p r ih1 ih2=>simp only [exsBare,Ex.bare,ih1,ih2]
theorem bare_sts:∀ l:List St,stsBare (stsBare l)=stsBare l:=by
 intro l
 induction l using Sts.ind with
 | h0=>rfl
 | h1 k n o e b l p r ih1 ih2 ih3=>simp only [stsBare,St.bare,ih1,ih2,ih3,bare_exs]
theorem bare_dcs (l:List Dc):(l.map Dc.bare).map Dc.bare=l.map Dc.bare:=by rw [List.map_map];rfl
theorem bare_th (x:Th):x.bare.bare=x.bare:=by simp only [Th.bare,bare_dcs,bare_sts]
theorem bare_ths (l:List Th):(l.map Th.bare).map Th.bare=l.map Th.bare:=by
 rw [List.map_map];congr 1;funext x;exact bare_th x
theorem bare_pg (x:Pg):x.bare.bare=x.bare:=by simp only [Pg.bare,bare_dcs,bare_ths]
theorem exsBare_len (l:List Ex):(exsBare l).length=l.length:=by rw [exsBare_map,List.length_map]
theorem stsBare_len (l:List St):(stsBare l).length=l.length:=by rw [stsBare_map,List.length_map]
theorem okEs_bare:∀ l:List Ex,okEs l→okEs (exsBare l):=by
 intro l
 induction l using Exs.ind with
 | h0=>intro _;trivial
 | h1 k o wd nm ks p r ih1 ih2 =>
   intro h
   exact ⟨⟨by rw [exsBare_len];exact h.1.1,ih1 h.1.2⟩,ih2 h.2⟩
theorem okSs_bare:∀ l:List St,okSs l→okSs (stsBare l):=by
 intro l
 induction l using Sts.ind with
 | h0=>intro _;trivial
 | h1 k n o e b l p r ih1 ih2 ih3 =>
   intro h
   obtain ⟨⟨⟨e1,e2⟩,⟨b1,b2⟩,l1,l2⟩,hr⟩:=h
   exact ⟨⟨⟨by rw [exsBare_len];exact e1,okEs_bare _ e2⟩,⟨by rw [stsBare_len];exact b1,ih1 b2⟩,by rw [stsBare_len];exact l1,ih2 l2⟩,ih3 hr⟩
theorem okP_bare {x:Pg} (h:okP x):okP x.bare:=by
 obtain ⟨h1,h2,h3,h4⟩:=h
 refine ⟨by simpa [Pg.bare] using h1,by simpa [Pg.bare] using h2,by simpa [Pg.bare] using h3,fun t ht=>?_⟩
 obtain ⟨u,hu,rfl⟩:=List.mem_map.1 (show t∈x.threads.map Th.bare from ht)
 obtain ⟨k1,k2,k3⟩:=h4 u hu
 exact ⟨by simpa [Th.bare] using k1,by simp only [Th.bare];rw [stsBare_len];exact k2,okSs_bare _ k3⟩
theorem fitEs_bare:∀ l:List Ex,fitEs l→fitEs (exsBare l):=by
 intro l
 induction l using Exs.ind with
 | h0=>intro _;trivial
 | h1 k o wd nm ks p r ih1 ih2 =>
   intro h
   exact ⟨⟨h.1.1,by rw [exsBare_len];exact h.1.2.1,ih1 h.1.2.2⟩,ih2 h.2⟩
theorem fitSs_bare:∀ l:List St,fitSs l→fitSs (stsBare l):=by
 intro l
 induction l using Sts.ind with
 | h0=>intro _;trivial
 | h1 k n o e b l p r ih1 ih2 ih3 =>
   intro h
   obtain ⟨⟨n1,n2,⟨e1,e2⟩,⟨b1,b2⟩,l1,l2⟩,hr⟩:=h
   exact ⟨⟨n1,n2,⟨by rw [exsBare_len];exact e1,fitEs_bare _ e2⟩,⟨by rw [stsBare_len];exact b1,ih1 b2⟩,by rw [stsBare_len];exact l1,ih2 l2⟩,ih3 hr⟩
theorem fitDs_bare {l:List Dc} (h:fitDs l):fitDs (l.map Dc.bare):=fun d hd=>by
 obtain ⟨u,hu,rfl⟩:=List.mem_map.1 hd
 exact h u hu
theorem fitP_bare {x:Pg} (h:fitP x):fitP x.bare:=by
 obtain ⟨⟨h1,h2⟩,⟨h3,h4⟩,h5,h6⟩:=h
 refine ⟨⟨by simpa [Pg.bare] using h1,fitDs_bare h2⟩,⟨by simpa [Pg.bare] using h3,fitDs_bare h4⟩,by simpa [Pg.bare] using h5,fun t ht=>?_⟩
 obtain ⟨u,hu,rfl⟩:=List.mem_map.1 (show t∈x.threads.map Th.bare from ht)
 obtain ⟨k0,⟨k1,k2⟩,k3,k4⟩:=h6 u hu
 exact ⟨k0,⟨by simpa [Th.bare] using k1,fitDs_bare k2⟩,by simp only [Th.bare];rw [stsBare_len];exact k3,fitSs_bare _ k4⟩
theorem rgEs_bare:∀ l:List Ex,rgEs l→rgEs (exsBare l):=by
 intro l
 induction l using Exs.ind with
 | h0=>intro _;trivial
 | h1 k o wd nm ks p r ih1 ih2 =>
   intro h
   exact ⟨⟨h.1.1,h.1.2.1,h.1.2.2.1,ih1 h.1.2.2.2⟩,ih2 h.2⟩
theorem rgSs_bare:∀ l:List St,rgSs l→rgSs (stsBare l):=by
 intro l
 induction l using Sts.ind with
 | h0=>intro _;trivial
 | h1 k n o e b l p r ih1 ih2 ih3 =>
   intro h
   exact ⟨⟨h.1.1,rgEs_bare _ h.1.2.1,ih1 h.1.2.2.1,ih2 h.1.2.2.2⟩,ih3 h.2⟩
theorem prOk_bare {x:Pg} (h:PrOk x):PrOk x.bare:=by
 obtain ⟨h1,h2,h3,h4,h5,h6⟩:=h
 refine ⟨okP_bare h1,fun t ht=>?_,fun d hd=>?_,by simpa [Pg.bare] using h4,by simpa [Pg.bare] using h5,fun t ht=>?_⟩
 · obtain ⟨u, hu, rfl⟩ := List.mem_map.1 (show t ∈ x.threads.map Th.bare from ht)
   exact rgSs_bare _ (h2 u hu)
 · obtain ⟨u, hu, rfl⟩ := List.mem_map.1 (show d ∈ x.shared.map Dc.bare from hd)
   exact h3 u hu
 · obtain ⟨u, hu, rfl⟩ := List.mem_map.1 (show t ∈ x.threads.map Th.bare from ht)
   simpa [Th.bare] using h6 u hu
theorem kid1_bare (ks ks':List Ex) (fs:List (Int→Bool)) (d:Int) (h:ks'.map (fun e=>(e.kind,e.op))=ks.map (fun e=>(e.kind,e.op))):kid1 ks' fs d=kid1 ks fs d:=by
 match ks,ks',fs,h with
 | [],[],_,_=>rfl
 | [x], [y], fs, h =>
   simp only [List.map_cons,List.map_nil,List.cons.injEq,Prod.mk.injEq,and_true] at h
   match fs with
   | []=>rfl
   | [f]=>simp only [kid1,h.1]
   | _::_::_=>rfl
 | _::_::_,_::_::_,_,_=>rfl
 | [_],_::_::_,_,h=>exact absurd (congrArg List.length h) (by simp)
 | _::_::_,[_],_,h=>exact absurd (congrArg List.length h) (by simp)
theorem kid2_bare (o:Int) (ks ks':List Ex) (fs:List (Int→Bool)) (d:Int) (h:ks'.map (fun e=>(e.kind,e.op))=ks.map (fun e=>(e.kind,e.op))):kid2 o ks' fs d=kid2 o ks fs d:=by
 match ks,ks',fs,h with
 | [],[],_,_=>rfl
 | [_],[_],_,_=>rfl
 | [x, y], [x', y'], fs, h =>
   simp only [List.map_cons,List.map_nil,List.cons.injEq,Prod.mk.injEq,and_true] at h
   match fs with
   | []=>rfl
   | [_]=>rfl
   | [f,g]=>simp only [kid2,wrL,wrR,h.1.1,h.1.2,h.2.1,h.2.2]
   | _::_::_::_=>rfl
 | _::_::_::_,_::_::_::_,_,_=>rfl
 | [_],_::_::_,_,h=>exact absurd (congrArg List.length h) (by simp)
 | [_,_],[_],_,h=>exact absurd (congrArg List.length h) (by simp)
 | [_,_],_::_::_::_,_,h=>exact absurd (congrArg List.length h) (by simp)
 | _::_::_::_,[_],_,h=>exact absurd (congrArg List.length h) (by simp)
 | _::_::_::_,[_,_],_,h=>exact absurd (congrArg List.length h) (by simp)
theorem kinds_bare:∀ l:List Ex,(exsBare l).map (fun e=>(e.kind,e.op))=l.map (fun e=>(e.kind,e.op))
 | []=>rfl
 | .mk k o wd nm ks p::r=>by simp only [exsBare,List.map_cons,kinds_bare r];rfl
theorem rEs_bare:∀ l:List Ex,rEs (exsBare l)=rEs l:=by
 intro l
 induction l using Exs.ind with
 | h0=>rfl
 | h1 k o wd nm ks p r ih1 ih2 =>
   simp only [exsBare,rEs,ih2,List.cons.injEq,and_true]
   funext d
   simp only [Ex.bare,rE,ih1,kB]
   rw [kid1_bare ks (exsBare ks) _ _ (kinds_bare ks),kid2_bare o ks (exsBare ks) _ _ (kinds_bare ks)]
   have:(exsBare ks).isEmpty=ks.isEmpty:=by cases ks <;> rfl
   rw [this]
theorem allE_bare (l:List Ex):allE (exsBare l)=allE l:=by
 have h:∀ l:List Ex,allE l=(rEs l).all (fun f=>f 0):=by
  intro l
  unfold allE
  induction l with
  | nil=>rfl
  | cons x r ih=>simp only [List.all_cons,rEs,ih]
 rw [h,h,rEs_bare]
theorem rAll_bare:∀ (l:List St) (d:Int),rAll (stsBare l) d=rAll l d:=by
 intro l
 induction l using Sts.ind with
 | h0=>intro d;rfl
 | h1 k n o e b l p r ih1 ih2 ih3 =>
   intro d
   simp only [stsBare,rAll,ih3,St.bare,rS,exsBare_len,stsBare_len,allE_bare,ih1,ih2]
theorem bareB_bare (l:List Dc):bareB (l.map Dc.bare)=bareB l:=by simp [bareB,List.all_map,Dc.bare,Function.comp_def]
theorem rP_bare (x:Pg):rP x.bare=rP x:=by
 have h:∀ t:Th,thB t.bare=thB t:=fun t=>by simp only [thB,Th.bare,bareB_bare,rB,rAll_bare]
 simp only [rP,Pg.bare,bareB_bare,List.all_map,Function.comp_def,h]
 simp only [sharedB,List.all_map,Function.comp_def,Dc.bare]
 rfl
theorem tP_bare (x:Pg):tP x.bare=tP x:=same_tP (bare_samePg _ _ (bare_pg x))
theorem same_bare (x:Pg):samePg x x.bare=true:=bare_samePg _ _ (bare_pg x).symm
end Go.Proofs.YtggbkldniffbfaaGreatDoor

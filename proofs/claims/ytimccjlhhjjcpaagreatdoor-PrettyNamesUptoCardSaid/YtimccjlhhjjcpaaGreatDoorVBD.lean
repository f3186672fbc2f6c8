/- The proof, part 30: texts that belong together, in one. -/
import Derived.Test.YtimccjlhhjjcpaaGreatDoorVBB
import Derived.Test.YtimccjlhhjjcpaaGreatDoorVAY
import Derived.Maps.OwnIn
import Derived.Sort.KeysCollected
set_option maxRecDepth 100000
set_option maxHeartbeats 20000000
namespace Go.Proofs.YtimccjlhhjjcpaaGreatDoor
open Go.RowKit
set_option linter.unusedVariables false
structure Zn (B:Nat) (w0:World) (f:ByteArray→ByteArray) (L:List Addr) (W:World):Prop where
 low:B≤w0.heap.size
 below:Below B w0 W
 free:∀ b,Rz B w0 b→Uf W b
 ok:∀ a∈L,Rz B w0 a.block∧a.spot=none∧∃ s,w0.cell? a=some (.string s)
 done:∀ a∈L,∀ s,w0.cell? a=some (.string s)→W.cell? a=some (.string (f s))
 stay:∀ g o v,w0.cell? ⟨g,o,none⟩=some v→(∀ a∈L,a≠⟨g,o,none⟩)→W.cell? ⟨g,o,none⟩=some v
 row:∀ b,b<w0.heap.size→(∀ a∈L,a.block≠b)→W.heap[b]? = w0.heap[b]?
section
variable {B:Nat} {w0 W W':World} {f:ByteArray→ByteArray} {L:List Addr}
theorem zn_nil (h:B≤w0.heap.size):Zn B w0 f [] w0:=⟨h,Below.refl _ _,fun _ hb=>hb.2.2,fun z hz=>absurd hz (by simp),fun z hz=>absurd hz (by simp),fun _ _ _ h _=>h,fun _ _ _=>rfl⟩
theorem zn_keep (h:Zn B w0 f L W) (hb:Below W.heap.size W W'):Zn B w0 f L W':=by
 have hs:=h.below.size
 refine ⟨h.low,h.below.trans (hb.mono (Nat.le_trans h.low hs)),fun b hr=>uf_below (h.free b hr) hb (Nat.lt_of_lt_of_le hr.2.1 hs),h.ok,fun a ha s hv=>?_,fun g o v hv hn=>?_,fun b hl hn=>?_⟩
 · rw [hb.cell (p:=a) (Nat.lt_of_lt_of_le (cell_lt hv) hs)];exact h.done a ha s hv
 · rw [hb.cell (p:=⟨g,o,none⟩) (Nat.lt_of_lt_of_le (cell_lt hv) hs)];exact h.stay g o v hv hn
 · rw [hb.block b (by omega)];exact h.row b hl hn
theorem zn_name (h:Zn B w0 f L W) {g o:Nat} {s:ByteArray} (hs:w0.cell? ⟨g,o,none⟩=some (.string s)):∃ u,(u=s∨u=f s)∧W.cell? ⟨g,o,none⟩=some (.string u):=by
 by_cases hz:(⟨g,o,none⟩:Addr)∈L
 · exact ⟨f s,.inr rfl,h.done _ hz s hs⟩
 · exact ⟨s,.inl rfl,h.stay g o _ hs fun a ha e=>hz (e ▸ ha)⟩
theorem zn_other (h:Zn B w0 f L W) {g o:Nat} {v:Value} (hv:w0.cell? ⟨g,o,none⟩=some v) (hn:∀ s,v ≠ .string s):W.cell? ⟨g,o,none⟩=some v :=
 h.stay g o v hv fun a ha e=>by
  obtain ⟨_,_,s,hs⟩:=h.ok a ha
  rw [e,hv] at hs
  exact hn s (Option.some.inj hs)
theorem zn_sk (h:Zn B w0 f L W):Sk w0 W:=⟨h.below.size,fun g o v hv hk=>zn_other h hv fun s e=>by
 rcases hk with ⟨k,hk⟩ | ⟨a,l,c,hk⟩ <;> (rw [hk] at e;cases e)⟩
theorem zn_skip (h:Zn B w0 f L W) {g o:Nat} (hr:Rz B w0 g) {s:ByteArray} (hs:w0.cell? ⟨g,o,none⟩=some (.string s)) (hw:W.cell? ⟨g,o,none⟩=some (.string (f s))):Zn B w0 f (L++[⟨g,o,none⟩]) W:=by
 refine ⟨h.low,h.below,h.free,fun a ha=>?_,fun a ha u hu=>?_,fun g' o' v hv hn=>h.stay g' o' v hv fun a ha=>hn a (by simp [ha]),fun b hl hn=>h.row b hl fun a ha=>hn a (by simp [ha])⟩
 · rcases List.mem_append.1 ha with ha | ha
   · exact h.ok a ha
   · obtain rfl : a = _ := by simpa using ha
     exact ⟨hr,rfl,s,hs⟩
 · rcases List.mem_append.1 ha with ha | ha
   · exact h.done a ha u hu
   · obtain rfl : a = _ := by simpa using ha
     rw [hs] at hu
     obtain rfl:s=u:=by injection Option.some.inj hu
     exact hw
theorem zn_set (h:Zn B w0 f L W) {g o:Nat} (hr:Rz B w0 g) {s:ByteArray} (hs:w0.cell? ⟨g,o,none⟩=some (.string s)):Zn B w0 f (L++[⟨g,o,none⟩]) (W.setCell ⟨g,o,none⟩ (.string (f s))):=by
 obtain ⟨u,_,hu⟩:=zn_name h hs
 refine ⟨h.low,h.below.setCell hr.1 _,fun b hb=>uf_setCell (h.free b hb) _ _,fun a ha=>?_,fun a ha t ht=>?_,fun g' o' v hv hn=>?_,fun b hl hn=>?_⟩
 · rcases List.mem_append.1 ha with ha | ha
   · exact h.ok a ha
   · obtain rfl : a = _ := by simpa using ha
     exact ⟨hr,rfl,s,hs⟩
 · by_cases e : (⟨g, o, none⟩ : Addr) = a
   · subst e
     rw [hs] at ht
     obtain rfl:s=t:=by injection Option.some.inj ht
     exact World.cell?_setCell_same _ _ _ hu
   · rw [World.cell?_setCell_other _ _ _ _ e]
     rcases List.mem_append.1 ha with ha | ha
     · exact h.done a ha t ht
     · exact absurd (by simpa using ha:a=_).symm e
 · rw [World.cell?_setCell_other _ _ _ _ (hn ⟨g, o, none⟩ (by simp))]
   exact h.stay g' o' v hv fun a ha=>hn a (by simp [ha])
 · have hne : g ≠ b := hn ⟨g, o, none⟩ (by simp)
   rw [Below.heap_setCell _ _ _ _ (by show b≠g;omega)]
   exact h.row b hl fun a ha=>hn a (by simp [ha])
theorem own_zn (h:Zn B w0 f L W) {g:Nat} {r:Array Value} {T:TypeId} (ho:Own w0 g T r) (hr:∀ (o:Nat) (s:ByteArray),r[o]? ≠ some (Value.string s)):Own W g T r :=
 (h.row g ho.lt fun a ha e=>by
  obtain ⟨_,hs,s,hn⟩:=h.ok a ha
  obtain ⟨b,o,sp⟩:=a
  simp only at e hn hs
  subst e hs
  rw [cell_of_row _ _ o _ _ _ ho] at hn
  exact hr o s hn).trans ho
theorem rz_rfn (h:Zn B w0 f L W) {b:Nat} (hb:Rz B w0 b):Rf B W b:=⟨hb.1,h.free b hb⟩
end
mutual
def fxE (g:ByteArray→ByteArray):Ex→Prop
 | .mk k _ _ n ks _=>(k≠2→g n=n)∧fxEs g ks
def fxEs (g:ByteArray→ByteArray):List Ex→Prop
 | []=>True
 | e::r=>fxE g e∧fxEs g r
end
mutual
def fxS (g:ByteArray→ByteArray):St→Prop
 | .mk _ _ _ e b l _=>fxEs g e∧fxSs g b∧fxSs g l
def fxSs (g:ByteArray→ByteArray):List St→Prop
 | []=>True
 | e::r=>fxS g e∧fxSs g r
end
def fxP (g:ByteArray→ByteArray) (p:Pg):Prop:=∀ t∈p.threads,fxSs g t.body
theorem u8_ns {k:Int} : ∀ s,Value.int .u8 k ≠ .string s:=fun s h=>by cases h
theorem i64_ns {k:Int} : ∀ s,Value.int .i64 k ≠ .string s:=fun s h=>by cases h
theorem sl_ns {a:Option Addr} {l c:Nat} : ∀ s,Value.slice a l c ≠ .string s:=fun s h=>by cases h
def adr (V:List Vz):List Addr:=V.flatMap Vz.nm
theorem adr_app (V U:List Vz):adr (V++U)=adr V++adr U:=by simp [adr]
section
variable {B:Nat} {w0 W:World} {f:ByteArray→ByteArray} {L:List Addr}
theorem exsIn_zn (h:Zn B w0 f L W):∀ (l:List Ex) (g o:Nat),exsIn (Rz B w0) w0 l g o→fxEs f l→(∀ a∈adr (vEs w0 l g o),a∈L)→exsIn (Rf B W) W (exsRen f l) g o:=by
 intro l
 induction l using Exs.ind with
 | h0=>intro g o _ _ _;exact trivial
 | h1 k op wd nm ks p r ih1 ih2 =>
   intro g o hi hx hz
   obtain ⟨⟨c0,c1,c2,c3,⟨a,cap,c4,h4⟩,c5⟩,hr⟩:=hi
   have hk:=kE_of c4 h4
   simp only [vEs,vE] at hz
   rw [hk] at hz
   simp only [adr,List.flatMap_cons,List.flatMap_append,List.mem_append,List.cons_append] at hz
   have z0:k=2→(⟨g,o+3,none⟩:Addr)∈L:=fun e=>hz _ (.inl (by simp [e]))
   have z1:∀ z∈adr (vEsA w0 ks a),z∈L:=fun z hm=>hz z (.inr (.inl hm))
   have z2:∀ z∈adr (vEs w0 r g (o+6)),z∈L:=fun z hm=>hz z (.inr (.inr hm))
   have c3':W.cell? ⟨g,o+3,none⟩=some (.string (if k=2 then f nm else nm)):=by
    by_cases e:k=2
    · rw [if_pos e];exact h.done _ (z0 e) nm c3
    · rw [if_neg e]
      obtain ⟨u,hu,hc⟩:=zn_name h c3
      rw [hx.1.1 e,or_self] at hu
      rw [hc,hu]
   refine ⟨⟨zn_other h c0 u8_ns,zn_other h c1 u8_ns,zn_other h c2 i64_ns,c3',⟨a,cap,by rw [exsRen_len];exact zn_other h c4 sl_ns,?_⟩,zn_other h c5 i64_ns⟩,ih2 g _ hr hx.2 z2⟩
   rcases h4 with h4 | ⟨g',q,rfl,hg,hi⟩
   · obtain rfl : ks = [] := by simpa using h4
     exact .inl rfl
   · exact .inr ⟨g',q,rfl,rz_rfn h hg,ih1 g' q hi hx.1.2 z1⟩
theorem exsAt_zn (h:Zn B w0 f L W) {l:List Ex} {a:Option Addr} (hi:exsAt (Rz B w0) w0 l a) (hx:fxEs f l) (hz:∀ z∈adr (vEsA w0 l a),z∈L):exsAt (Rf B W) W (exsRen f l) a:=by
 rcases hi with h4 | ⟨g',q,rfl,hg,hi⟩
 · obtain rfl : l = [] := by simpa using h4
   exact .inl rfl
 · exact .inr ⟨g',q,rfl,rz_rfn h hg,exsIn_zn h l g' q hi hx hz⟩
theorem stsIn_zn (h:Zn B w0 f L W):∀ (l:List St) (g o:Nat),stsIn (Rz B w0) w0 l g o→fxSs f l→(∀ a∈adr (vSs w0 l g o),a∈L)→stsIn (Rf B W) W (stsRen f l) g o:=by
 intro l
 induction l using Sts.ind with
 | h0=>intro g o _ _ _;exact trivial
 | h1 k nm ot es bo el p r ih1 ih2 ih3 =>
   intro g o hi hx hz
   obtain ⟨⟨c0,c1,c2,⟨a3,p3,c3,h3⟩,⟨a4,p4,c4,h4⟩,⟨a5,p5,c5,h5⟩,c6⟩,hr⟩:=hi
   obtain ⟨⟨x1,x2,x3⟩,xr⟩:=hx
   simp only [vSs,vS] at hz
   rw [kE_of c3 h3,kS_of c4 h4,kS_of c5 h5] at hz
   simp only [adr,List.flatMap_cons,List.flatMap_append,List.mem_append,List.cons_append,List.nil_append,List.mem_cons] at hz
   have z3:∀ z∈adr (vEsA w0 es a3),z∈L:=fun z hm=>hz z (.inr (.inr (.inl (.inl hm))))
   have z4:∀ z∈adr (vSsA w0 bo a4),z∈L:=fun z hm=>hz z (.inr (.inr (.inl (.inr (.inl hm)))))
   have z5:∀ z∈adr (vSsA w0 el a5),z∈L:=fun z hm=>hz z (.inr (.inr (.inl (.inr (.inr hm)))))
   have z6:∀ z∈adr (vSs w0 r g (o+7)),z∈L:=fun z hm=>hz z (.inr (.inr (.inr hm)))
   have hk:∀ {ks:List St} {a:Option Addr} (ih:∀ (g o:Nat),stsIn (Rz B w0) w0 ks g o→fxSs f ks→(∀ z∈adr (vSs w0 ks g o),z∈L)→stsIn (Rf B W) W (stsRen f ks) g o) (h4:stsAt (Rz B w0) w0 ks a) (hx:fxSs f ks) (hz:∀ z∈adr (vSsA w0 ks a),z∈L),stsAt (Rf B W) W (stsRen f ks) a:=by
    intro ks a ih h4 hx hz
    rcases h4 with h4 | ⟨g',q,rfl,hg,hi⟩
    · obtain rfl : ks = [] := by simpa using h4
      exact .inl rfl
    · exact .inr ⟨g',q,rfl,rz_rfn h hg,ih g' q hi hx hz⟩
   exact ⟨⟨zn_other h c0 u8_ns,h.done _ (hz _ (.inl rfl)) nm c1,h.done _ (hz _ (.inr (.inl rfl))) ot c2,⟨a3,p3,by rw [exsRen_len];exact zn_other h c3 sl_ns,exsAt_zn h h3 x1 z3⟩,⟨a4,p4,by rw [stsRen_len];exact zn_other h c4 sl_ns,hk ih1 h4 x2 z4⟩,⟨a5,p5,by rw [stsRen_len];exact zn_other h c5 sl_ns,hk ih2 h5 x3 z5⟩,zn_other h c6 i64_ns⟩,ih3 g _ hr xr z6⟩
theorem stsAt_zn (h:Zn B w0 f L W) {l:List St} {a:Option Addr} (hi:stsAt (Rz B w0) w0 l a) (hx:fxSs f l) (hz:∀ z∈adr (vSsA w0 l a),z∈L):stsAt (Rf B W) W (stsRen f l) a:=by
 rcases hi with h4 | ⟨g',q,rfl,hg,hi⟩
 · obtain rfl : l = [] := by simpa using h4
   exact .inl rfl
 · exact .inr ⟨g',q,rfl,rz_rfn h hg,stsIn_zn h l g' q hi hx hz⟩
theorem dcsIn_zn (h:Zn B w0 f L W):∀ (l:List Dc) (g o:Nat),dcsIn w0 l g o→(∀ z∈adr (vDs w0 l g o),z∈L)→dcsIn W (l.map (Dc.ren f)) g o
 | [],_,_,_,_=>trivial
 | ⟨nm, wd, p⟩ :: r, g, o, ⟨⟨c0, c1, c2⟩, hr⟩, hz => by
   simp only [vDs,vD,adr,List.flatMap_cons,List.cons_append,List.nil_append,List.mem_cons] at hz
   exact ⟨⟨h.done _ (hz _ (.inl rfl)) nm c0,zn_other h c1 i64_ns,zn_other h c2 i64_ns⟩,dcsIn_zn h r g _ hr (fun z hm=>hz z (.inr hm))⟩
theorem dcsAt_zn (h:Zn B w0 f L W) {l:List Dc} {a:Option Addr} (hi:dcsAt (Rz B w0) w0 l a) (hz:∀ z∈adr (vDsA w0 l a),z∈L):dcsAt (Rf B W) W (l.map (Dc.ren f)) a:=by
 rcases hi with h4 | ⟨g',q,rfl,hg,hi⟩
 · obtain rfl : l = [] := by simpa using h4
   exact .inl rfl
 · exact .inr ⟨g',q,rfl,rz_rfn h hg,dcsIn_zn h l g' q hi hz⟩
theorem thsIn_zn (h:Zn B w0 f L W):∀ (l:List Th) (g o:Nat),thsIn (Rz B w0) w0 l g o→(∀ t∈l,fxSs f t.body)→(∀ z∈adr (vTs w0 l g o),z∈L)→thsIn (Rf B W) W (l.map (Th.ren f)) g o
 | [],_,_,_,_,_=>trivial
 | ⟨nm, lo, bo, p⟩ :: r, g, o, ⟨⟨c0, ⟨a1, p1, c1, h1⟩, ⟨a2, p2, c2, h2⟩, c3⟩, hr⟩, hx, hz => by
   simp only [vTs,vT] at hz
   rw [kD_of c1 h1,kS_of c2 h2] at hz
   simp only [adr,List.flatMap_append,List.mem_append,List.flatMap_cons,List.cons_append,List.nil_append,List.mem_cons] at hz
   have z1:∀ z∈adr (vDsA w0 lo a1),z∈L:=fun z hm=>hz z (.inr (.inl (.inl hm)))
   have z2:∀ z∈adr (vSsA w0 bo a2),z∈L:=fun z hm=>hz z (.inr (.inl (.inr hm)))
   exact ⟨⟨h.done _ (hz _ (.inl rfl)) nm c0,⟨a1,p1,by have:=zn_other h c1 sl_ns;simpa [Th.ren] using this,dcsAt_zn h h1 z1⟩,⟨a2,p2,by have:=zn_other h c2 sl_ns;simpa [Th.ren,stsRen_len] using this,stsAt_zn h h2 (hx _ (.head _)) z2⟩,zn_other h c3 i64_ns⟩,thsIn_zn h r g _ hr (fun t ht=>hx t (.tail _ ht)) (fun z hm=>hz z (.inr (.inr hm)))⟩
theorem thsAt_zn (h:Zn B w0 f L W) {l:List Th} {a:Option Addr} (hi:thsAt (Rz B w0) w0 l a) (hx:∀ t∈l,fxSs f t.body) (hz:∀ z∈adr (vTsA w0 l a),z∈L):thsAt (Rf B W) W (l.map (Th.ren f)) a:=by
 rcases hi with h4 | ⟨g',q,rfl,hg,hi⟩
 · obtain rfl : l = [] := by simpa using h4
   exact .inl rfl
 · exact .inr ⟨g',q,rfl,rz_rfn h hg,thsIn_zn h l g' q hi hx hz⟩
end
theorem kid1_in {ks:List Ex} {fs:List (Int→Bool)} {d:Int} (h:kid1 ks fs d=true) (hl:fs.length=ks.length):∀ f∈fs,∃ d,f d=true:=by
 match ks,fs,hl with
 | [x], [f], _ => exact fun g hg => by obtain rfl : g = f := by simpa using hg
                                       exact ⟨_,h⟩
 | [],_,_=>simp [kid1] at h
 | _::_::_,_,_=>simp [kid1] at h
theorem kid2_in {o:Int} {ks:List Ex} {fs:List (Int→Bool)} {d:Int} (h:kid2 o ks fs d=true) (hl:fs.length=ks.length):∀ f∈fs,∃ d,f d=true:=by
 match ks,fs,hl with
 | [x, y], [f, f2], _ =>
   simp only [kid2,Bool.and_eq_true] at h
   intro g hg
   rcases (by simpa using hg:g=f∨g=f2) with rfl | rfl
   · exact ⟨_,h.1⟩
   · exact ⟨_,h.2⟩
 | [],_,_=>simp [kid2] at h
 | [_],_,_=>simp [kid2] at h
 | _::_::_::_,_,_=>simp [kid2] at h
theorem fxEs_of {g:ByteArray→ByteArray} (h0:g ⟨#[]⟩=⟨#[]⟩):∀ l:List Ex,(∀ f∈rEs l,∃ d,f d=true)→fxEs g l:=by
 intro l
 induction l using Exs.ind with
 | h0=>intro _;trivial
 | h1 k o wd nm ks p r ih1 ih2 =>
   intro h
   simp only [rEs,List.mem_cons] at h
   refine ⟨⟨fun e=>?_,ih1 fun f hf=>?_⟩,ih2 fun f hf=>h f (.inr hf)⟩
   · obtain ⟨d, hd⟩ := h _ (.inl rfl)
     simp only [rE,Bool.and_eq_true] at hd
     have h3:=hd.2.2.1
     rw [show (k==2)=false by simpa using e] at h3
     have:nm=⟨#[]⟩:=bytes_same h3
     rw [this,h0]
   · obtain ⟨d, hd⟩ := h _ (.inl rfl)
     simp only [rE,Bool.and_eq_true] at hd
     have h4:=hd.2.2.2
     unfold kB at h4
     split at h4
     · simp only [Bool.and_eq_true, List.isEmpty_iff] at h4
       obtain ⟨_,rfl⟩:=h4
       simp [rEs] at hf
     · split at h4
       · simp only [Bool.and_eq_true] at h4
         exact kid1_in h4.2 (rEs_len ks) f hf
       · split at h4
         · simp only [Bool.and_eq_true] at h4
           exact kid2_in h4.2 (rEs_len ks) f hf
         · cases h4
theorem fxEs_all {g:ByteArray→ByteArray} (h0:g ⟨#[]⟩=⟨#[]⟩) {l:List Ex} (h:allE l=true):fxEs g l:=by
 have hall:∀ l:List Ex,allE l=(rEs l).all (fun f=>f 0):=by
  intro l
  unfold allE
  induction l with
  | nil=>rfl
  | cons x r ih=>simp only [List.all_cons,rEs,ih]
 rw [hall,List.all_eq_true] at h
 exact fxEs_of h0 l fun f hf=>⟨0,h f hf⟩
theorem fxSs_of {g:ByteArray→ByteArray} (h0:g ⟨#[]⟩=⟨#[]⟩):∀ (l:List St) (d:Int),rAll l d=true→fxSs g l:=by
 intro l
 induction l using Sts.ind with
 | h0=>intro d _;trivial
 | h1 k n o e b l p r ih1 ih2 ih3 =>
   intro d h
   simp only [rAll,rS,Bool.and_eq_true,Bool.or_eq_true] at h
   obtain ⟨⟨a1,a2,a3,a4,a5,a6,a7,a8,a9,a10⟩,hr⟩:=h
   refine ⟨⟨fxEs_all h0 a8,?_,?_⟩,ih3 d hr⟩
   · rcases a9 with a9 | a9
     · rcases a6 with a6 | a6
       · rw [a6] at a9;cases a9
       · have : b.length = 0 := by have := eq_of_beq a6; omega
         obtain rfl:b=[]:=List.eq_nil_of_length_eq_zero this
         trivial
     · exact ih1 _ a9.2
   · rcases a10 with a10 | a10
     · have : l.length = 0 := by simp at a10; simp [a10]
       obtain rfl:l=[]:=List.eq_nil_of_length_eq_zero this
       trivial
     · exact ih2 _ a10.2
theorem fxP_of {g:ByteArray→ByteArray} (h0:g ⟨#[]⟩=⟨#[]⟩) {x:Pg} (h:rP x=true):fxP g x:=fun t ht=>by
 simp only [rP,Bool.and_eq_true] at h
 have:=List.all_eq_true.1 h.2.2 t ht
 simp only [thB,rB,Bool.and_eq_true] at this
 exact fxSs_of h0 _ _ this.2.2.2
open Go.RowKit Go.Maps
set_option linter.unusedVariables false
def nmC (w0:World) (V:List Vz) (s:ByteArray):Prop:=∃ a∈adr V,w0.cell? a=some (.string s)
theorem nmC_app {w0:World} {V U:List Vz} {s:ByteArray} : nmC w0 (V++U) s↔nmC w0 V s∨nmC w0 U s:=by
 simp only [nmC,adr_app,List.mem_append]
 exact ⟨fun ⟨a,h,e⟩=>h.elim (fun h=>.inl ⟨a,h,e⟩) (fun h=>.inr ⟨a,h,e⟩),fun h=>h.elim (fun ⟨a,h,e⟩=>⟨a,.inl h,e⟩) (fun ⟨a,h,e⟩=>⟨a,.inr h,e⟩)⟩
theorem nmC_nil {w0:World} {s:ByteArray} : ¬ nmC w0 [] s:=fun ⟨a,h,_⟩=>by cases h
theorem nmC_cons {w0:World} {v:Vz} {U:List Vz} {s:ByteArray} : nmC w0 (v::U) s↔nmC w0 [v] s∨nmC w0 U s:=nmC_app (V:=[v])
theorem nmC_one {w0:World} {p a:Addr} {s u:ByteArray} (h:w0.cell? a=some (.string s)):nmC w0 [⟨p,[a]⟩] u↔u=s:=by
 refine ⟨fun ⟨b,hb,e⟩=>?_,fun e=>⟨a,by simp [adr],by rw [e];exact h⟩⟩
 obtain rfl:b=a:=by simpa [adr] using hb
 rw [h] at e;injection Option.some.inj e with e;exact e.symm
theorem nmC_two {w0:World} {p a b:Addr} {s t u:ByteArray} (h:w0.cell? a=some (.string s)) (h2:w0.cell? b=some (.string t)):nmC w0 [⟨p,[a,b]⟩] u↔u=s∨u=t:=by
 refine ⟨fun ⟨c,hc,e⟩=>?_,fun e=>e.elim (fun e=>⟨a,by simp [adr],by rw [e];exact h⟩) (fun e=>⟨b,by simp [adr],by rw [e];exact h2⟩)⟩
 rcases (by simpa [adr] using hc:c=a∨c=b) with rfl | rfl
 · rw [h] at e;injection Option.some.inj e with e;exact .inl e.symm
 · rw [h2] at e;injection Option.some.inj e with e;exact .inr e.symm
theorem nmC_zero {w0:World} {p:Addr} {u:ByteArray} : ¬ nmC w0 [⟨p,[]⟩] u:=fun ⟨a,h,_⟩=>by simp [adr] at h
theorem nmC_exs {R:Nat→Prop} {w0:World} {s:ByteArray} : ∀ (l:List Ex) (g o:Nat),exsIn R w0 l g o→(nmC w0 (vEs w0 l g o) s↔s∈nmEs l):=by
 intro l
 induction l using Exs.ind with
 | h0=>intro g o _;exact ⟨fun h=>absurd h nmC_nil,fun h=>by cases h⟩
 | h1 k op wd nm ks p r ih1 ih2 =>
   intro g o hi
   obtain ⟨⟨c0,c1,c2,c3,⟨a,cap,c4,h4⟩,c5⟩,hr⟩:=hi
   simp only [vEs,vE,nmEs,nmE,List.mem_append]
   rw [kE_of c4 h4,nmC_app,nmC_cons,ih2 g _ hr]
   have hk:nmC w0 (vEsA w0 ks a) s↔s∈nmEs ks:=by
    rcases h4 with h4 | ⟨g',q,rfl,hg,hi⟩
    · obtain rfl : ks = [] := by simpa using h4
      rw [vEsA_nil];exact ⟨fun h=>absurd h nmC_nil,fun h=>by cases h⟩
    · exact ih1 g' q hi
   rw [hk]
   by_cases e:k=2
   · rw [if_pos e,if_pos e,nmC_one c3];simp
   · rw [if_neg e,if_neg e];exact or_congr (or_congr ⟨fun h=>absurd h nmC_zero,fun h=>by cases h⟩ Iff.rfl) Iff.rfl
theorem nmC_exsA {R:Nat→Prop} {w0:World} {s:ByteArray} {l:List Ex} {a:Option Addr} (h:exsAt R w0 l a):nmC w0 (vEsA w0 l a) s↔s∈nmEs l:=by
 rcases h with h4 | ⟨g',q,rfl,hg,hi⟩
 · obtain rfl : l = [] := by simpa using h4
   rw [vEsA_nil];exact ⟨fun h=>absurd h nmC_nil,fun h=>by cases h⟩
 · exact nmC_exs l g' q hi
theorem nmC_sts {R:Nat→Prop} {w0:World} {s:ByteArray} : ∀ (l:List St) (g o:Nat),stsIn R w0 l g o→(nmC w0 (vSs w0 l g o) s↔s∈nmSs l):=by
 intro l
 induction l using Sts.ind with
 | h0=>intro g o _;exact ⟨fun h=>absurd h nmC_nil,fun h=>by cases h⟩
 | h1 k nm ot es bo el p r ih1 ih2 ih3 =>
   intro g o hi
   obtain ⟨⟨c0,c1,c2,⟨a3,p3,c3,h3⟩,⟨a4,p4,c4,h4⟩,⟨a5,p5,c5,h5⟩,c6⟩,hr⟩:=hi
   simp only [vSs,vS,nmSs,nmS]
   have hk:∀ {ks:List St} {a:Option Addr} (ih:∀ (g o:Nat),stsIn R w0 ks g o→(nmC w0 (vSs w0 ks g o) s↔s∈nmSs ks)) (h4:stsAt R w0 ks a),nmC w0 (vSsA w0 ks a) s↔s∈nmSs ks:=by
    intro ks a ih h4
    rcases h4 with h4 | ⟨g',q,rfl,hg,hi⟩
    · obtain rfl : ks = [] := by simpa using h4
      rw [vSsA_nil];exact ⟨fun h=>absurd h nmC_nil,fun h=>by cases h⟩
    · exact ih g' q hi
   rw [kE_of c3 h3,kS_of c4 h4,kS_of c5 h5,nmC_app,nmC_cons,nmC_app,nmC_app,nmC_two c1 c2,nmC_exsA h3,hk ih1 h4,hk ih2 h5,ih3 g _ hr]
   simp only [List.mem_append,List.mem_cons]
   exact or_congr or_assoc Iff.rfl
theorem nmC_stsA {R:Nat→Prop} {w0:World} {s:ByteArray} {l:List St} {a:Option Addr} (h:stsAt R w0 l a):nmC w0 (vSsA w0 l a) s↔s∈nmSs l:=by
 rcases h with h4 | ⟨g',q,rfl,hg,hi⟩
 · obtain rfl : l = [] := by simpa using h4
   rw [vSsA_nil];exact ⟨fun h=>absurd h nmC_nil,fun h=>by cases h⟩
 · exact nmC_sts l g' q hi
theorem nmC_dcs {w0:World} {s:ByteArray} : ∀ (l:List Dc) (g o:Nat),dcsIn w0 l g o→(nmC w0 (vDs w0 l g o) s↔s∈nmDs l)
 | [],_,_,_=>⟨fun h=>absurd h nmC_nil,fun h=>by cases h⟩
 | ⟨nm, wd, p⟩ :: r, g, o, ⟨⟨c0, c1, c2⟩, hr⟩ => by
   simp only [vDs,vD,nmDs,List.map_cons,List.mem_cons]
   rw [nmC_app,nmC_one c0,nmC_dcs r g _ hr];rfl
theorem nmC_dcsA {R:Nat→Prop} {w0:World} {s:ByteArray} {l:List Dc} {a:Option Addr} (h:dcsAt R w0 l a):nmC w0 (vDsA w0 l a) s↔s∈nmDs l:=by
 rcases h with h4 | ⟨g',q,rfl,hg,hi⟩
 · obtain rfl : l = [] := by simpa using h4
   rw [vDsA_nil];exact ⟨fun h=>absurd h nmC_nil,fun h=>by cases h⟩
 · exact nmC_dcs l g' q hi
theorem nmC_ths {R:Nat→Prop} {w0:World} {s:ByteArray} : ∀ (l:List Th) (g o:Nat),thsIn R w0 l g o→(nmC w0 (vTs w0 l g o) s↔s∈nmTs l)
 | [],_,_,_=>⟨fun h=>absurd h nmC_nil,fun h=>by cases h⟩
 | ⟨nm, lo, bo, p⟩ :: r, g, o, ⟨⟨c0, ⟨a1, p1, c1, h1⟩, ⟨a2, p2, c2, h2⟩, c3⟩, hr⟩ => by
   simp only [vTs,vT,nmTs,nmT,List.flatMap_cons,List.mem_append,List.mem_cons]
   rw [kD_of c1 h1,kS_of c2 h2,nmC_app,nmC_cons,nmC_app,nmC_one c0,nmC_dcsA h1,nmC_stsA h2,nmC_ths r g _ hr];rfl
theorem nmC_thsA {R:Nat→Prop} {w0:World} {s:ByteArray} {l:List Th} {a:Option Addr} (h:thsAt R w0 l a):nmC w0 (vTsA w0 l a) s↔s∈nmTs l:=by
 rcases h with h4 | ⟨g',q,rfl,hg,hi⟩
 · obtain rfl : l = [] := by simpa using h4
   rw [vTsA_nil];exact ⟨fun h=>absurd h nmC_nil,fun h=>by cases h⟩
 · exact nmC_ths l g' q hi
abbrev MO (w:World) (m n:Nat) (D:DataW Unit):Prop:=w.ownsMap Tryz.prog 9 (plainElem Tryz.prog 3) m n D
structure Nk (fb m:Nat) (w0:World) (V:List Vz) (W:World):Prop where
 mp:∃ es c,w0.heap[m]? = some (.map es c)
 fd:w0.cell? ⟨fb,0,none⟩=some (.map (some m))
 grown:w0.grownBy W (some m)
 map:∃ (n:Nat) (D:DataW Unit),n≤2*V.length∧MO W m n D∧∀ s,has D (.string s)=true↔s≠[]∧nmC w0 V ⟨s.toArray⟩
section
variable {fb m:Nat} {w0 W W':World} {V:List Vz}
theorem nk_lt (h:Nk fb m w0 V W):m<w0.heap.size:=by
 obtain ⟨es,c,h⟩:=h.mp
 exact (Array.getElem?_eq_some_iff.1 h).1
theorem nk_cell (h:Nk fb m w0 V W) {a:Addr} {v:Value} (ha:w0.cell? a=some v):W.cell? a=some v:=by
 have hne:a.block≠m:=fun e=>by
  obtain ⟨es,c,h⟩:=h.mp
  obtain ⟨b,o,sp⟩:=a
  simp only at e;subst e
  simp [World.cell?,h] at ha
 rw [World.cell?_of_block (h.grown.block a.block (cell_lt ha) fun e=>hne (Option.some.inj e))];exact ha
theorem nk_nil (mp:∃ es c,w0.heap[m]? = some (.map es c)) (fd:w0.cell? ⟨fb,0,none⟩=some (.map (some m))) (h:MO w0 m 0 (.map [])):Nk fb m w0 [] w0 :=
 ⟨mp,fd,⟨rfl,rfl,rfl,Nat.le_refl _,fun _ _ _=>rfl⟩,0,_,Nat.zero_le _,h,fun s=>⟨fun h=>(by simp [has] at h),fun h=>absurd h.2 nmC_nil⟩⟩
theorem mo_same {w w':World} {m n:Nat} {D:DataW Unit} (h:MO w m n D) (e:w'.heap[m]? = w.heap[m]?):MO w' m n D:=by
 obtain ⟨es,c,hb,r⟩:=h
 exact ⟨es,c,e.trans hb,r⟩
theorem nk_keep (h:Nk fb m w0 V W) (hb:Below W.heap.size W W'):Nk fb m w0 V W':=by
 have hs:=h.grown.size
 have hm:=nk_lt h
 obtain ⟨n,D,hn,hD,hk⟩:=h.map
 refine ⟨h.mp,h.fd,⟨hb.os.trans h.grown.os,hb.tape.trans h.grown.tape,hb.output.trans h.grown.output,Nat.le_trans hs hb.size,fun k hk hne=>?_⟩,n,D,hn,mo_same hD (hb.block m (by omega)),hk⟩
 rw [hb.block k (by omega)];exact h.grown.block k hk hne
theorem nk_sk (h:Nk fb m w0 V W):Sk w0 W:=⟨h.grown.size,fun g o v hv _=>nk_cell h hv⟩
end
theorem has_name {D:DataW Unit} (hD:IsMap D) {s:List UInt8} (hs:s.length≤maxLen) (d:DataW Unit) (u:List UInt8):has (D.put (.string s) d) (.string u)=true↔u=s∨has D (.string u)=true:=by
 by_cases e:u=s
 · subst e;simp [has_put_same hD (show WideAt.IsKeyLit (Lit.string u) from by trivial) d]
 · rw [has_put_other (fun h=>e (by injection h)) d];simp [e]
end Go.Proofs.YtimccjlhhjjcpaaGreatDoor

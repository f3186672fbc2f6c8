import Derived.Test.YtbgfkdiihnidaaaGreatDoorQBA
import Derived.Test.YtbgfkdiihnidaaaGreatDoorQAX
import Derived.Test.YtbgfkdiihnidaaaGreatDoorQAV
import Derived.Test.YtbgfkdiihnidaaaGreatDoorQAO
import Derived.ChangeArms
import Derived.SizedLaws
import Derived.Carry
import Derived.ChangeSame
import Derived.WideShapes
import Derived.Test.YtbgfkdiihnidaaaGreatDoorQAW
import Derived.Test.YtbgfkdiihnidaaaGreatDoorQAY
import Derived.Test.YtbgfkdiihnidaaaGreatDoorRows
import Derived.Deep.AppendLies
import Derived.OwnWalk
import Derived.Test.YtbgfkdiihnidaaaGreatDoorQAR
import Derived.Test.YtbgfkdiihnidaaaGreatDoorQAA
import Derived.Test.YtbgfkdiihnidaaaGreatDoorQAD
set_option maxRecDepth 100000
set_option maxHeartbeats 20000000
namespace Go.Proofs.YtbgfkdiihnidaaaGreatDoor
open Go.RowKit
set_option linter.unusedVariables false
structure Zn (B:Nat) (w0:World) (f:ByteArray->ByteArray) (L:List Addr) (W:World):Prop where
 low:B<=w0.heap.size
 below:Below B w0 W
 free:∀ b,Rz B w0 b->Uf W b
 ok:∀ a∈L,Rz B w0 a.block/\a.spot=none/\∃ s,w0.cell? a=some (.string s)
 done:∀ a∈L,∀ s,w0.cell? a=some (.string s)->W.cell? a=some (.string (f s))
 stay:∀ g o v,w0.cell? ⟨g,o,none⟩=some v->(∀ a∈L,a≠⟨g,o,none⟩)->W.cell? ⟨g,o,none⟩=some v
 row:∀ b,b<w0.heap.size->(∀ a∈L,a.block≠b)->W.heap[b]? = w0.heap[b]?
section
variable {B:Nat} {w0 W W':World} {f:ByteArray->ByteArray} {L:List Addr}
theorem zn_nil (h:B<=w0.heap.size):Zn B w0 f [] w0:=⟨h,Below.refl _ _,fun _ hb=>hb.2.2,fun z hz=>absurd hz (by simp),fun z hz=>absurd hz (by simp),fun _ _ _ h _=>h,fun _ _ _=>rfl⟩
theorem zn_keep (h:Zn B w0 f L W) (hb:Below W.heap.size W W'):Zn B w0 f L W':=by
 have c:=h.below.size;refine ⟨h.low,h.below.trans (hb.mono (Nat.le_trans h.low c)),fun b hr=>uf_below (h.free b hr) hb (Nat.lt_of_lt_of_le hr.2.1 c),h.ok,fun a ha s hv=>?_,fun g o v hv hn=>?_,fun b hl hn=>?_⟩
 · rw [hb.cell (p:=a) (Nat.lt_of_lt_of_le (cell_lt hv) c)];exact h.done a ha s hv
 · rw [hb.cell (p:=⟨g,o,none⟩) (Nat.lt_of_lt_of_le (cell_lt hv) c)];exact h.stay g o v hv hn
 · rw [hb.block b (by omega)];exact h.row b hl hn
theorem zn_name (h:Zn B w0 f L W) {g o:Nat} {s:ByteArray} (hs:w0.cell? ⟨g,o,none⟩=some (.string s)):∃ u,(u=s\/u=f s)/\W.cell? ⟨g,o,none⟩=some (.string u):=by
 by_cases hz:(⟨g,o,none⟩:Addr)∈L
 · exact ⟨f s,.inr rfl,h.done _ hz s hs⟩
 · exact ⟨s,.inl rfl,h.stay g o _ hs fun a ha e=>hz (e ▸ ha)⟩
theorem zn_other (h:Zn B w0 f L W) {g o:Nat} {v:Value} (hv:w0.cell? ⟨g,o,none⟩=some v) (hn:∀ s,v ≠ .string s):W.cell? ⟨g,o,none⟩=some v :=
 h.stay g o v hv fun a ha e=>by
  obtain ⟨_,_,s,hs⟩:=h.ok a ha
  rw [e,hv] at hs
  exact hn s (Option.some.inj hs)
theorem zn_sk (h:Zn B w0 f L W):Sk w0 W:=⟨h.below.size,fun g o v hv hk=>zn_other h hv fun s e=>by
 rcases hk with ⟨k,hk⟩ | ⟨a,l,c,hk⟩ <;> (rw [hk] at e;cases e)⟩
theorem zn_skip (h:Zn B w0 f L W) {g o:Nat} (hr:Rz B w0 g) {s:ByteArray} (hs:w0.cell? ⟨g,o,none⟩=some (.string s)) (hw:W.cell? ⟨g,o,none⟩=some (.string (f s))):Zn B w0 f (L++[⟨g,o,none⟩]) W:=by
 refine ⟨h.low,h.below,h.free,fun a c=>?_,fun a c u hu=>?_,fun g' o' v hv hn=>h.stay g' o' v hv fun a c=>hn a (by simp [c]),fun b hl hn=>h.row b hl fun a c=>hn a (by simp [c])⟩
 · rcases List.mem_append.1 c with c | c
   · exact h.ok a c
   · obtain rfl : a = _ := by simpa using c
     exact ⟨hr,rfl,s,hs⟩
 · rcases List.mem_append.1 c with c | c
   · exact h.done a c u hu
   · obtain rfl : a = _ := by simpa using c
     rw [hs] at hu;obtain rfl:s=u:=by injection Option.some.inj hu
     exact hw
theorem zn_set (h:Zn B w0 f L W) {g o:Nat} (hr:Rz B w0 g) {s:ByteArray} (hs:w0.cell? ⟨g,o,none⟩=some (.string s)):Zn B w0 f (L++[⟨g,o,none⟩]) (W.setCell ⟨g,o,none⟩ (.string (f s))):=by
 obtain ⟨u,_,d⟩:=zn_name h hs;refine ⟨h.low,h.below.setCell hr.1 _,fun b hb=>uf_setCell (h.free b hb) _ _,fun a c=>?_,fun a c t ht=>?_,fun g' o' v hv hn=>?_,fun b hl hn=>?_⟩
 · rcases List.mem_append.1 c with c | c
   · exact h.ok a c
   · obtain rfl : a = _ := by simpa using c
     exact ⟨hr,rfl,s,hs⟩
 · by_cases e : (⟨g, o, none⟩ : Addr) = a
   · subst e
     rw [hs] at ht;obtain rfl:s=t:=by injection Option.some.inj ht
     exact World.cell?_setCell_same _ _ _ d
   · rw [World.cell?_setCell_other _ _ _ _ e]
     rcases List.mem_append.1 c with c | c
     · exact h.done a c t ht
     · exact absurd (by simpa using c:a=_).symm e
 · rw [World.cell?_setCell_other _ _ _ _ (hn ⟨g, o, none⟩ (by simp))]
   exact h.stay g' o' v hv fun a c=>hn a (by simp [c])
 · have i : g ≠ b := hn ⟨g, o, none⟩ (by simp)
   rw [Below.heap_setCell _ _ _ _ (by show b≠g;omega)]
   exact h.row b hl fun a c=>hn a (by simp [c])
theorem own_zn (h:Zn B w0 f L W) {g:Nat} {r:Array Value} {T:TypeId} (ho:Own w0 g T r) (hr:∀ (o:Nat) (s:ByteArray),r[o]? ≠ some (Value.string s)):Own W g T r :=
 (h.row g ho.lt fun a ha e=>by
  obtain ⟨_,hs,s,hn⟩:=h.ok a ha
  obtain ⟨b,o,sp⟩:=a
  simp only at e hn hs
  subst e hs
  rw [cell_of_row _ _ o _ _ _ ho] at hn
  exact hr o s hn).trans ho
theorem rz_rfn (h:Zn B w0 f L W) {b:Nat} (hb:Rz B w0 b):Rf B W b:=⟨hb.1,h.free b hb⟩
end
mutual
def fxE (g:ByteArray->ByteArray):Ex->Prop
 | .mk k _ _ n ks _=>(k≠2->g n=n)/\fxEs g ks
def fxEs (g:ByteArray->ByteArray):List Ex->Prop
 | []=>True
 | e::r=>fxE g e/\fxEs g r
end
mutual
def fxS (g:ByteArray->ByteArray):St->Prop
 | .mk _ _ _ e b l _=>fxEs g e/\fxSs g b/\fxSs g l
def fxSs (g:ByteArray->ByteArray):List St->Prop
 | []=>True
 | e::r=>fxS g e/\fxSs g r
end
def fxP (g:ByteArray->ByteArray) (p:Pg):Prop:=∀ t∈p.threads,fxSs g t.body
theorem u8_ns {k:Int} : ∀ s,Value.int .u8 k ≠ .string s:=fun s h=>by cases h
theorem i64_ns {k:Int} : ∀ s,Value.int .i64 k ≠ .string s:=fun s h=>by cases h
theorem sl_ns {a:Option Addr} {l c:Nat} : ∀ s,Value.slice a l c ≠ .string s:=fun s h=>by cases h
def adr (V:List Vz):List Addr:=V.flatMap Vz.nm
theorem adr_app (V U:List Vz):adr (V++U)=adr V++adr U:=by simp [adr]
section
variable {B:Nat} {w0 W:World} {f:ByteArray->ByteArray} {L:List Addr}
theorem exsIn_zn (h:Zn B w0 f L W):∀ (l:List Ex) (g o:Nat),exsIn (Rz B w0) w0 l g o->fxEs f l->(∀ a∈adr (vEs w0 l g o),a∈L)->exsIn (Rf B W) W (exsRen f l) g o:=by
 intro l;induction l using Exs.ind with
 | h0=>intro g o _ _ _;exact trivial
 | h1 k op wd nm ks p r ih1 ih2 =>
   intro g o m j b;obtain ⟨⟨E,F,D,n,⟨a,d,s,c⟩,H⟩,C⟩:=m;have I:=kE_of s c;simp only [vEs,vE] at b;rw [I] at b;simp only [adr,List.flatMap_cons,List.flatMap_append,List.mem_append,List.cons_append] at b;have y:k=2->(⟨g,o+3,none⟩:Addr)∈L:=fun e=>b _ (.inl (by simp [e]))
   have A:∀ z∈adr (vEsA w0 ks a),z∈L:=fun z hm=>b z (.inr (.inl hm))
   have x:∀ z∈adr (vEs w0 r g (o+6)),z∈L:=fun z hm=>b z (.inr (.inr hm))
   have i:W.cell? ⟨g,o+3,none⟩=some (.string (if k=2 then f nm else nm)):=by
    by_cases e:k=2
    · rw [if_pos e];exact h.done _ (y e) nm n
    · rw [if_neg e]
      obtain ⟨u,t,G⟩:=zn_name h n;rw [j.1.1 e,or_self] at t;rw [G,t]
   refine ⟨⟨zn_other h E u8_ns,zn_other h F u8_ns,zn_other h D i64_ns,i,⟨a,d,by rw [exsRen_len];exact zn_other h s sl_ns,?_⟩,zn_other h H i64_ns⟩,ih2 g _ C j.2 x⟩
   rcases c with c | ⟨v,q,rfl,J,m⟩
   · obtain rfl : ks = [] := by simpa using c
     exact .inl rfl
   · exact .inr ⟨v,q,rfl,rz_rfn h J,ih1 v q m j.1.2 A⟩
theorem exsAt_zn (h:Zn B w0 f L W) {l:List Ex} {a:Option Addr} (hi:exsAt (Rz B w0) w0 l a) (hx:fxEs f l) (hz:∀ z∈adr (vEsA w0 l a),z∈L):exsAt (Rf B W) W (exsRen f l) a:=by
 rcases hi with c | ⟨b,q,rfl,d,hi⟩
 · obtain rfl : l = [] := by simpa using c
   exact .inl rfl
 · exact .inr ⟨b,q,rfl,rz_rfn h d,exsIn_zn h l b q hi hx hz⟩
theorem stsIn_zn (h:Zn B w0 f L W):∀ (l:List St) (g o:Nat),stsIn (Rz B w0) w0 l g o->fxSs f l->(∀ a∈adr (vSs w0 l g o),a∈L)->stsIn (Rf B W) W (stsRen f l) g o:=by
 intro l;induction l using Sts.ind with
 | h0=>intro g o _ _ _;exact trivial
 | h1 k nm ot es bo el p r ih1 ih2 ih3 =>
   intro g o j i b;obtain ⟨⟨O,S,M,⟨s,R,m,v⟩,⟨n,F,t,d⟩,⟨y,T,D,x⟩,N⟩,J⟩:=j;obtain ⟨⟨V,Q,U⟩,H⟩:=i;simp only [vSs,vS] at b;rw [kE_of m v,kS_of t d,kS_of D x] at b;simp only [adr,List.flatMap_cons,List.flatMap_append,List.mem_append,List.cons_append,List.nil_append,List.mem_cons] at b;have K:∀ z∈adr (vEsA w0 es s),z∈L:=fun z hm=>b z (.inr (.inr (.inl (.inl hm))))
   have P:∀ z∈adr (vSsA w0 bo n),z∈L:=fun z hm=>b z (.inr (.inr (.inl (.inr (.inl hm)))))
   have G:∀ z∈adr (vSsA w0 el y),z∈L:=fun z hm=>b z (.inr (.inr (.inl (.inr (.inr hm)))))
   have I:∀ z∈adr (vSs w0 r g (o+7)),z∈L:=fun z hm=>b z (.inr (.inr (.inr hm)))
   have E:∀ {c:List St} {a:Option Addr} (C:∀ (g o:Nat),stsIn (Rz B w0) w0 c g o->fxSs f c->(∀ z∈adr (vSs w0 c g o),z∈L)->stsIn (Rf B W) W (stsRen f c) g o) (d:stsAt (Rz B w0) w0 c a) (i:fxSs f c) (b:∀ z∈adr (vSsA w0 c a),z∈L),stsAt (Rf B W) W (stsRen f c) a:=by
    intro c a C d i b;rcases d with d | ⟨A,q,rfl,X,j⟩
    · obtain rfl : c = [] := by simpa using d
      exact .inl rfl
    · exact .inr ⟨A,q,rfl,rz_rfn h X,C A q j i b⟩
   exact ⟨⟨zn_other h O u8_ns,h.done _ (b _ (.inl rfl)) nm S,h.done _ (b _ (.inr (.inl rfl))) ot M,⟨s,R,by rw [exsRen_len];exact zn_other h m sl_ns,exsAt_zn h v V K⟩,⟨n,F,by rw [stsRen_len];exact zn_other h t sl_ns,E ih1 d Q P⟩,⟨y,T,by rw [stsRen_len];exact zn_other h D sl_ns,E ih2 x U G⟩,zn_other h N i64_ns⟩,ih3 g _ J H I⟩
theorem stsAt_zn (h:Zn B w0 f L W) {l:List St} {a:Option Addr} (hi:stsAt (Rz B w0) w0 l a) (hx:fxSs f l) (hz:∀ z∈adr (vSsA w0 l a),z∈L):stsAt (Rf B W) W (stsRen f l) a:=by
 rcases hi with c | ⟨b,q,rfl,d,hi⟩
 · obtain rfl : l = [] := by simpa using c
   exact .inl rfl
 · exact .inr ⟨b,q,rfl,rz_rfn h d,stsIn_zn h l b q hi hx hz⟩
theorem dcsIn_zn (h:Zn B w0 f L W):∀ (l:List Dc) (g o:Nat),dcsIn w0 l g o->(∀ z∈adr (vDs w0 l g o),z∈L)->dcsIn W (l.map (Dc.ren f)) g o
 | [],_,_,_,_=>trivial
 | ⟨nm, wd, p⟩ :: r, g, o, ⟨⟨c0, c1, c2⟩, hr⟩, hz => by
   simp only [vDs,vD,adr,List.flatMap_cons,List.cons_append,List.nil_append,List.mem_cons] at hz
   exact ⟨⟨h.done _ (hz _ (.inl rfl)) nm c0,zn_other h c1 i64_ns,zn_other h c2 i64_ns⟩,dcsIn_zn h r g _ hr (fun z hm=>hz z (.inr hm))⟩
theorem dcsAt_zn (h:Zn B w0 f L W) {l:List Dc} {a:Option Addr} (hi:dcsAt (Rz B w0) w0 l a) (hz:∀ z∈adr (vDsA w0 l a),z∈L):dcsAt (Rf B W) W (l.map (Dc.ren f)) a:=by
 rcases hi with c | ⟨b,q,rfl,d,hi⟩
 · obtain rfl : l = [] := by simpa using c
   exact .inl rfl
 · exact .inr ⟨b,q,rfl,rz_rfn h d,dcsIn_zn h l b q hi hz⟩
theorem thsIn_zn (h:Zn B w0 f L W):∀ (l:List Th) (g o:Nat),thsIn (Rz B w0) w0 l g o->(∀ t∈l,fxSs f t.body)->(∀ z∈adr (vTs w0 l g o),z∈L)->thsIn (Rf B W) W (l.map (Th.ren f)) g o
 | [],_,_,_,_,_=>trivial
 | ⟨nm, lo, bo, p⟩ :: r, g, o, ⟨⟨c0, ⟨a1, p1, c1, h1⟩, ⟨a2, p2, c2, h2⟩, c3⟩, hr⟩, hx, hz => by
   simp only [vTs,vT] at hz
   rw [kD_of c1 h1,kS_of c2 h2] at hz
   simp only [adr,List.flatMap_append,List.mem_append,List.flatMap_cons,List.cons_append,List.nil_append,List.mem_cons] at hz
   have z1:∀ z∈adr (vDsA w0 lo a1),z∈L:=fun z hm=>hz z (.inr (.inl (.inl hm)))
   have z2:∀ z∈adr (vSsA w0 bo a2),z∈L:=fun z hm=>hz z (.inr (.inl (.inr hm)))
   exact ⟨⟨h.done _ (hz _ (.inl rfl)) nm c0,⟨a1,p1,by have:=zn_other h c1 sl_ns;simpa [Th.ren] using this,dcsAt_zn h h1 z1⟩,⟨a2,p2,by have:=zn_other h c2 sl_ns;simpa [Th.ren,stsRen_len] using this,stsAt_zn h h2 (hx _ (.head _)) z2⟩,zn_other h c3 i64_ns⟩,thsIn_zn h r g _ hr (fun t ht=>hx t (.tail _ ht)) (fun z hm=>hz z (.inr (.inr hm)))⟩
theorem thsAt_zn (h:Zn B w0 f L W) {l:List Th} {a:Option Addr} (hi:thsAt (Rz B w0) w0 l a) (hx:∀ t∈l,fxSs f t.body) (hz:∀ z∈adr (vTsA w0 l a),z∈L):thsAt (Rf B W) W (l.map (Th.ren f)) a:=by
 rcases hi with c | ⟨b,q,rfl,d,hi⟩
 · obtain rfl : l = [] := by simpa using c
   exact .inl rfl
 · exact .inr ⟨b,q,rfl,rz_rfn h d,thsIn_zn h l b q hi hx hz⟩
end
theorem kid1_in {ks:List Ex} {fs:List (Int->Bool)} {d:Int} (h:kid1 ks fs d=true) (hl:fs.length=ks.length):∀ f∈fs,∃ d,f d=true:=by
 match ks,fs,hl with
 | [x], [f], _ => exact fun g hg => by obtain rfl : g = f := by simpa using hg
                                       exact ⟨_,h⟩
 | [],_,_=>simp [kid1] at h
 | _::_::_,_,_=>simp [kid1] at h
theorem kid2_in {o:Int} {ks:List Ex} {fs:List (Int->Bool)} {d:Int} (h:kid2 o ks fs d=true) (hl:fs.length=ks.length):∀ f∈fs,∃ d,f d=true:=by
 match ks,fs,hl with
 | [x, y], [f, f2], _ =>
   simp only [kid2,Bool.and_eq_true] at h;intro g a;rcases (by simpa using a:g=f\/g=f2) with rfl | rfl
   · exact ⟨_,h.1⟩
   · exact ⟨_,h.2⟩
 | [],_,_=>simp [kid2] at h
 | [_],_,_=>simp [kid2] at h
 | _::_::_::_,_,_=>simp [kid2] at h
theorem fxEs_of {g:ByteArray->ByteArray} (h0:g ⟨#[]⟩=⟨#[]⟩):∀ l:List Ex,(∀ f∈rEs l,∃ d,f d=true)->fxEs g l:=by
 intro l;induction l using Exs.ind with
 | h0=>intro _;trivial
 | h1 k o wd nm ks p r ih1 ih2 =>
   intro h;simp only [rEs,List.mem_cons] at h;refine ⟨⟨fun e=>?_,ih1 fun f hf=>?_⟩,ih2 fun f hf=>h f (.inr hf)⟩
   · obtain ⟨d, b⟩ := h _ (.inl rfl)
     simp only [rE,Bool.and_eq_true] at b;have c:=b.2.2.1;rw [show (k==2)=false by simpa using e] at c
     have:nm=⟨#[]⟩:=bytes_same c;rw [this,h0]
   · obtain ⟨d, b⟩ := h _ (.inl rfl)
     simp only [rE,Bool.and_eq_true] at b;have a:=b.2.2.2;unfold kB at a;split at a
     · simp only [Bool.and_eq_true, List.isEmpty_iff] at a
       obtain ⟨_,rfl⟩:=a;simp [rEs] at hf
     · split at a
       · simp only [Bool.and_eq_true] at a
         exact kid1_in a.2 (rEs_len ks) f hf
       · split at a
         · simp only [Bool.and_eq_true] at a
           exact kid2_in a.2 (rEs_len ks) f hf
         · cases a
theorem fxEs_all {g:ByteArray->ByteArray} (h0:g ⟨#[]⟩=⟨#[]⟩) {l:List Ex} (h:allE l=true):fxEs g l:=by
 have a:∀ l:List Ex,allE l=(rEs l).all (fun f=>f 0):=by
  intro l;unfold allE;induction l with
  | nil=>rfl
  | cons x r ih=>simp only [List.all_cons,rEs,ih]
 rw [a,List.all_eq_true] at h;exact fxEs_of h0 l fun f hf=>⟨0,h f hf⟩
theorem fxSs_of {g:ByteArray->ByteArray} (h0:g ⟨#[]⟩=⟨#[]⟩):∀ (l:List St) (d:Int),rAll l d=true->fxSs g l:=by
 intro l;induction l using Sts.ind with
 | h0=>intro d _;trivial
 | h1 k n o e b l p r ih1 ih2 ih3 =>
   intro d h;simp only [rAll,rS,Bool.and_eq_true,Bool.or_eq_true] at h;obtain ⟨⟨x,m,s,q,t,f,v,j,c,a⟩,i⟩:=h;refine ⟨⟨fxEs_all h0 j,?_,?_⟩,ih3 d i⟩
   · rcases c with c | c
     · rcases f with f | f
       · rw [f] at c;cases c
       · have : b.length = 0 := by have := eq_of_beq f; omega
         obtain rfl:b=[]:=List.eq_nil_of_length_eq_zero this;trivial
     · exact ih1 _ c.2
   · rcases a with a | a
     · have : l.length = 0 := by simp at a; simp [a]
       obtain rfl:l=[]:=List.eq_nil_of_length_eq_zero this;trivial
     · exact ih2 _ a.2
theorem fxP_of {g:ByteArray->ByteArray} (h0:g ⟨#[]⟩=⟨#[]⟩) {x:Pg} (h:rP x=true):fxP g x:=fun t ht=>by
 simp only [rP,Bool.and_eq_true] at h
 have:=List.all_eq_true.1 h.2.2 t ht
 simp only [thB,rB,Bool.and_eq_true] at this
 exact fxSs_of h0 _ _ this.2.2.2
open Go.RowKit
set_option linter.unusedVariables false
theorem vEsA_split (w:World) (l:List Ex) (k:Nat) (a:Option Addr):∃ r,vEsA w l a=vEsA w (l.take k) a++r:=by
 cases a with
 | none=>exact ⟨[],rfl⟩
 | some p =>
   obtain ⟨g,q,s⟩:=p;refine ⟨vEs w (l.drop k) g (q+(l.take k).length*6),?_⟩;show vEs w l g q=vEs w (l.take k) g q++_;conv=>lhs;rw [<- List.take_append_drop k l,vEs_app]
theorem vSsA_split (w:World) (l:List St) (k:Nat) (a:Option Addr):∃ r,vSsA w l a=vSsA w (l.take k) a++r:=by
 cases a with
 | none=>exact ⟨[],rfl⟩
 | some p =>
   obtain ⟨g,q,s⟩:=p;refine ⟨vSs w (l.drop k) g (q+(l.take k).length*7),?_⟩;show vSs w l g q=vSs w (l.take k) g q++_;conv=>lhs;rw [<- List.take_append_drop k l,vSs_app]
theorem vDsA_split (w:World) (l:List Dc) (k:Nat) (a:Option Addr):∃ r,vDsA w l a=vDsA w (l.take k) a++r:=by
 cases a with
 | none=>exact ⟨[],rfl⟩
 | some p =>
   obtain ⟨g,q,s⟩:=p;refine ⟨vDs w (l.drop k) g (q+(l.take k).length*3),?_⟩;show vDs w l g q=vDs w (l.take k) g q++_;conv=>lhs;rw [<- List.take_append_drop k l,vDs_app]
theorem vTsA_split (w:World) (l:List Th) (k:Nat) (a:Option Addr):∃ r,vTsA w l a=vTsA w (l.take k) a++r:=by
 cases a with
 | none=>exact ⟨[],rfl⟩
 | some p =>
   obtain ⟨g,q,s⟩:=p;refine ⟨vTs w (l.drop k) g (q+(l.take k).length*4),?_⟩;show vTs w l g q=vTs w (l.take k) g q++_;conv=>lhs;rw [<- List.take_append_drop k l,vTs_app]
open Go.RowKit Go.ChangeShapes Go.WideShapes
set_option maxRecDepth 100000
section
variable {H:Type}
end
section
variable {H:Type} {enc:TypeId × Value->H} {W:World} {sp:Nat->Bool} {held:Bool}
theorem open_fieldsM {T:TypeId} {fs:Array Go.Field} (ht:Tryz.prog.underlying T=some (.struct fs)) {ks:List (Nat × Nat × Option TypeDesc)} (hk:fs.toList.map (fun f:Go.Field=>(f.offset,Tryz.prog.cellsOf f.type,Tryz.prog.underlying f.type))=ks)
 (h1:ks.map (fun u=>(u.1,u.2.1))=(List.range ks.length).map (fun i=>(i,1))) (hc:Tryz.prog.cellsOf T=ks.length) {n:Nat} {cs:List Value} {y:DataW H × List MemPlace} (h:DataW.trod enc Tryz.prog W 0 sp held n T cs=some y) :
 ∃ (m:Nat) (ys:List (DataW H × List MemPlace)),n=m+1/\cs.length=ks.length/\ys.length=ks.length/\y.1=.agg (ys.map (·.1))/\∀ (i:Nat) (k:Nat × Nat × Option TypeDesc),ks[i]? = some k->∃ v t z,cs[i]? = some v/\ys[i]? = some z/\Tryz.prog.underlying t=k.2.2/\DataW.trod enc Tryz.prog W 0 sp held m t [v]=some z:=by
 obtain ⟨ys,m,x,l,o,b,q⟩:=DataW.trod_struct ht h;rw [hc] at o;refine ⟨m,ys,x,o,by rw [b,<- hk,List.length_map];simp,by rw [l],fun i k hi=>?_⟩
 have a:ks[i]? = (fs[i]?).map (fun f:Go.Field=>(f.offset,Tryz.prog.cellsOf f.type,Tryz.prog.underlying f.type)):=by
  rw [<- hk,List.getElem?_map,Array.getElem?_toList]
 rw [hi] at a;cases hfi:fs[i]? with
 | none=>rw [hfi] at a;cases a
 | some f =>
   rw [hfi] at a;obtain rfl:k=(f.offset,Tryz.prog.cellsOf f.type,Tryz.prog.underlying f.type):=by simpa using a
   have j:i<ks.length:=(List.getElem?_eq_some_iff.1 hi).1;have p:(ks.map (fun u=>(u.1,u.2.1)))[i]? = some (f.offset,Tryz.prog.cellsOf f.type):=by rw [List.getElem?_map,hi];rfl
   rw [h1,List.getElem?_map,List.getElem?_range j] at p;obtain ⟨r,s⟩:i=f.offset/\1=Tryz.prog.cellsOf f.type:=by simpa using p
   have g:=q i f hfi;rw [<- r,<- s] at g;have c:i<cs.length:=by omega
   rw [List.drop_eq_getElem_cons c,List.take_succ_cons,List.take_zero] at g;have d:i<ys.length:=by rw [b];exact (Array.getElem?_eq_some_iff.1 hfi).1
   rw [List.getElem?_eq_getElem d] at g;exact ⟨cs[i],f.type,ys[i],List.getElem?_eq_getElem c,List.getElem?_eq_getElem d,rfl,g⟩
end
open Go.RowKit
set_option linter.unusedVariables false
mutual
def ctE:Ex->Nat | .mk _ _ _ _ ks _=>ctEs ks+1
def ctEs:List Ex->Nat | []=>0 | x::r=>ctE x+ctEs r
end
mutual
def ctS:St->Nat | .mk _ _ _ e b l _=>ctEs e+ctSs b+ctSs l+1
def ctSs:List St->Nat | []=>0 | x::r=>ctS x+ctSs r
end
def ctTs:List Th->Nat | []=>0 | x::r=>x.locals.length+ctSs x.body+1+ctTs r
def ctP (p:Pg):Nat:=p.shared.length+p.locks.length+ctTs p.threads
theorem vEs_ct (w:World):∀ (l:List Ex) (g o:Nat),(vEs w l g o).length=ctEs l:=by
 intro l;induction l using Exs.ind with
 | h0=>intro g o;rfl
 | h1 k op wd nm ks p r ih1 ih2 =>
   intro g o;simp only [vEs,vE,ctEs,ctE,List.length_append,List.length_cons,ih1,ih2]
theorem vSs_ct (w:World):∀ (l:List St) (g o:Nat),(vSs w l g o).length=ctSs l:=by
 intro l;induction l using Sts.ind with
 | h0=>intro g o;rfl
 | h1 k n ot e b l p r ih1 ih2 ih3 =>
   intro g o;simp only [vSs,vS,ctSs,ctS,List.length_append,List.length_cons,vEs_ct,ih1,ih2,ih3];omega
theorem vDs_ct (w:World):∀ (l:List Dc) (g o:Nat),(vDs w l g o).length=l.length
 | [],_,_=>rfl
 | x :: r, g, o => by
   simp only [vDs,vD,List.length_append,List.length_cons,List.length_nil,vDs_ct w r];omega
theorem vTs_ct (w:World):∀ (l:List Th) (g o:Nat),(vTs w l g o).length=ctTs l
 | [],_,_=>rfl
 | x :: r, g, o => by
   simp only [vTs,vT,ctTs,List.length_append,List.length_cons,vTs_ct w r,vDs_ct,vSs_ct]
theorem vDsA_ct (w:World) (l:List Dc) (a:Option Addr):(vDsA w l a).length<=l.length:=by
 cases a with
 | none=>exact Nat.zero_le _
 | some p=>exact Nat.le_of_eq (vDs_ct w l _ _)
theorem vTsA_ct (w:World) (l:List Th) (a:Option Addr):(vTsA w l a).length<=ctTs l:=by
 cases a with
 | none=>exact Nat.zero_le _
 | some p=>exact Nat.le_of_eq (vTs_ct w l _ _)
theorem vP_ct (w:World) {x:Pg} (h:ctP x<=1048576) (a1 a2 a3:Option Addr):(vDsA w x.shared a1++vDsA w x.locks a2++vTsA w x.threads a3).length<=1048576:=by
 have b:=vDsA_ct w x.shared a1;have c:=vDsA_ct w x.locks a2;have a:=vTsA_ct w x.threads a3;unfold ctP at h;simp only [List.length_append];omega
open Go.RowKit
set_option linter.unusedVariables false
theorem ctEs_len:∀ l:List Ex,l.length<=ctEs l
 | []=>Nat.le_refl _
 | x :: r => by
   have:=ctEs_len r
   obtain ⟨k,o,wd,nm,ks,ps⟩:=x
   simp only [List.length_cons,ctEs,ctE];omega
theorem ctSs_len:∀ l:List St,l.length<=ctSs l
 | []=>Nat.le_refl _
 | x :: r => by
   have:=ctSs_len r
   obtain ⟨k,n,o,e,b,l,ps⟩:=x
   simp only [List.length_cons,ctSs,ctS];omega
def ctT (t:Th):Nat:=t.locals.length+ctSs t.body+1
theorem ctTs_len:∀ l:List Th,l.length<=ctTs l
 | []=>Nat.le_refl _
 | x::r=>by have:=ctTs_len r;simp only [List.length_cons,ctTs];omega
theorem ctTs_mem:∀ {l:List Th} {x:Th},x∈l->ctT x<=ctTs l
 | y :: r, x, h => by
   rcases List.mem_cons.1 h with rfl | h
   · simp only [ctTs,ctT];omega
   · have:=ctTs_mem h;simp only [ctTs];omega
set_option linter.unusedSimpArgs false
theorem decDigits_pos (n:Nat):1<=(Lib.decDigits n).length:=by
 rw [Lib.decDigits];split <;> simp
theorem itoa_pos (n:Int):1<=(Lib.itoa n).length:=by
 unfold Lib.itoa;split
 · simp
 · exact decDigits_pos _
theorem kid1_shape {ks:List Ex} {fs:List (Int->Bool)} {d:Int} (h:kid1 ks fs d=true):∃ x,ks=[x]:=by
 unfold kid1 at h;split at h
 · exact ⟨_,rfl⟩
 · cases h
theorem kid2_shape {o:Int} {ks:List Ex} {fs:List (Int->Bool)} {d:Int} (h:kid2 o ks fs d=true):∃ x y,ks=[x,y]:=by
 unfold kid2 at h;split at h
 · exact ⟨_,_,rfl⟩
 · cases h
theorem kidT_len (b:Bool) (t:List UInt8):t.length<=(kidT b t).length:=by
 cases b
 · exact Nat.le_refl _
 · simp [kidT];omega
theorem name_pos {n:ByteArray} (h:nameB n=true):1<=n.data.toList.length:=by
 unfold nameB at h;simp only [Bool.and_eq_true,decide_eq_true_eq] at h;have:n.data.toList.length=n.size:=Array.length_toList;omega
theorem oneB_sign {o:Int} (h:oneB o=true):1<=(signOf o).length:=by
 unfold oneB at h;simp only [Bool.or_eq_true,beq_iff_eq] at h;rcases h with rfl | rfl <;> decide
theorem ctEs_t:∀ l:List Ex,(∀ f∈rEs l,∃ d,f d=true)->ctEs l<=(tEs l).flatten.length:=by
 intro l;induction l using Exs.ind with
 | h0=>intro _;exact Nat.zero_le _
 | h1 k o wd nm ks p r ih1 ih2 =>
   intro h;simp only [rEs,List.mem_cons] at h;obtain ⟨d,c⟩:=h _ (.inl rfl);have g:=ih2 (fun f hf=>h f (.inr hf))
   simp only [rE,Bool.and_eq_true] at c;obtain ⟨_,_,i,a⟩:=c;have j:ctEs ks+1<=(tK k o wd nm ks (tEs ks)).length:=by
    unfold kB at a;split at a
    · rename_i h12
      simp only [Bool.and_eq_true,List.isEmpty_iff] at a;obtain ⟨_,rfl⟩:=a;rcases h12 with rfl | rfl
      · show 1 <= (tK 1 o wd nm [] []).length
        unfold tK;rw [if_pos rfl];exact itoa_pos wd
      · show 1 <= (tK 2 o wd nm [] []).length
        unfold tK;rw [if_neg (by decide),if_pos rfl]
        exact name_pos i
    · split at a
      · rename_i h3
        subst h3;simp only [Bool.and_eq_true] at a;have b:=ih1 (fun f hf=>kid1_in a.2 (rEs_len ks) f hf)
        have m:=oneB_sign a.1;obtain ⟨x,rfl⟩:=kid1_shape a.2;simp only [tEs,List.flatten_cons,List.flatten_nil,List.append_nil] at b;have:=kidT_len (x.kind==4) (tE x);show _<=(signOf o++kidT (x.kind==4) (tE x)).length;rw [List.length_append];omega
      · split at a
        · rename_i h4
          subst h4;simp only [Bool.and_eq_true] at a;have b:=ih1 (fun f hf=>kid2_in a.2 (rEs_len ks) f hf)
          obtain ⟨x,y,rfl⟩:=kid2_shape a.2;simp only [tEs,List.flatten_cons,List.flatten_nil,List.append_nil,List.length_append] at b;have h1:=kidT_len (wrL o x) (tE x);have n:=kidT_len (wrR o y) (tE y);show _<=(kidT (wrL o x) (tE x)++([32]++signOf o++[32])++kidT (wrR o y) (tE y)).length;simp only [List.length_append,List.length_cons,List.length_nil];omega
        · cases a
   simp only [ctEs,ctE,tEs,tE,List.flatten_cons,List.length_append];omega
theorem ct_allE {l:List Ex} (h:allE l=true):ctEs l<=(tEs l).flatten.length:=by
 have a:∀ l:List Ex,allE l=(rEs l).all (fun f=>f 0):=by
  intro l;unfold allE;induction l with
  | nil=>rfl
  | cons x r ih=>simp only [List.all_cons,rEs,ih]
 rw [a,List.all_eq_true] at h;exact ctEs_t l fun f hf=>⟨0,h f hf⟩
theorem ln_len (d:Nat) (l:List (List UInt8)):(ln d l).length=(marg d).length+l.flatten.length+1:=by
 unfold ln;simp;omega
theorem e0_len {e:List Ex} (he:e.length<=1):(tEs e).flatten.length=(e0T e).length:=by
 match e,he with
 | [],_=>rfl
 | [x],_=>simp [tEs,e0T]
theorem ctSs_t:∀ (l:List St) (d:Nat) (dd:Int),rAll l dd=true->ctSs l<=(tSs l d).length:=by
 intro l;induction l using Sts.ind with
 | h0=>intro d dd _;exact Nat.zero_le _
 | h1 k n o e b l p r ih1 ih2 ih3 =>
   intro d dd h;simp only [rAll,Bool.and_eq_true] at h;obtain ⟨s,C⟩:=h;have J:=ih3 d dd C;simp only [rS,Bool.and_eq_true,Bool.or_eq_true,decide_eq_true_eq] at s;obtain ⟨I,K,_,_,q,B,z,x,A,G⟩:=s;have F:=ct_allE x;have m:rAll b (dd+1)=true->ctSs b<=(tSs b (d+1)).length:=ih1 (d+1) (dd+1);have v:rAll l (dd+1)=true->ctSs l<=(tSs l (d+1)).length:=ih2 (d+1) (dd+1);have c:(shp k).2.2.2.1=false->b=[]:=fun e=>by
    rcases B with h | h
    · rw [e] at h;cases h
    · exact List.eq_nil_of_length_eq_zero (by have:=eq_of_beq h;omega)
   have a:(shp k).2.2.2.2=false->l=[]:=fun e=>by
    rcases z with h | h
    · rw [e] at h;cases h
    · exact List.eq_nil_of_length_eq_zero (by have:=eq_of_beq h;omega)
   have f:(shp k).2.2.2.1=true->rAll b (dd+1)=true:=fun e=>by
    rcases A with h | h
    · rw [e] at h;cases h
    · exact h.2
   have g:0<l.length->rAll l (dd+1)=true:=fun e=>by
    rcases G with h | h
    · simp at h;subst h;simp at e
    · exact h.2
   have j:e.length<=1:=by
    have h1:=eq_of_beq q;have:∀ i:Nat,i<8->(shp (i:Int)).2.2.1<=1:=by decide
    have:=this k.toNat (by omega)
    rw [show ((k.toNat:Nat):Int)=k by omega] at this
    omega
   have y:=e0_len j;have E:ctEs e+ctSs b+ctSs l+1<=(tS (.mk k n o e b l p) d).length:=by
    rcases (show k=1\/k=2\/k=3\/k=4\/k=5\/k=6\/k=7 by omega) with rfl | rfl | rfl | rfl | rfl | rfl | rfl
    · obtain rfl := c rfl
      obtain rfl:=a rfl;simp only [tS,if_true,ln_len,List.flatten_cons,List.length_append,ctSs];omega
    · obtain rfl := c rfl
      obtain rfl:=a rfl;simp only [tS,if_neg (show ¬ (2:Int)=1 by decide),if_true,ln_len,List.flatten_cons,List.length_append,ctSs];omega
    · have t := m (f rfl)
      by_cases hl0:0<l.length
      · have H := v (g hl0)
        simp only [tS,if_neg (show ¬ (3:Int)=1 by decide),if_neg (show ¬ (3:Int)=2 by decide),if_true,if_pos hl0,ln_len,List.flatten_cons,List.length_append];omega
      · obtain rfl : l = [] := List.eq_nil_of_length_eq_zero (by omega)
        simp only [tS,if_neg (show ¬ (3:Int)=1 by decide),if_neg (show ¬ (3:Int)=2 by decide),if_true,if_neg hl0,ln_len,List.flatten_cons,List.length_append,ctSs,List.length_nil];omega
    · have t := m (f rfl)
      obtain rfl:=a rfl;simp only [tS,if_neg (show ¬ (4:Int)=1 by decide),if_neg (show ¬ (4:Int)=2 by decide),if_neg (show ¬ (4:Int)=3 by decide),if_true,ln_len,List.flatten_cons,List.length_append,ctSs];omega
    · have t := m (f rfl)
      obtain rfl:=a rfl;have h0:e=[]:=List.eq_nil_of_length_eq_zero (by have:=eq_of_beq q;have D:(shp 5).2.2.1=0:=rfl;omega)
      subst h0;simp only [tS,if_neg (show ¬ (5:Int)=1 by decide),if_neg (show ¬ (5:Int)=2 by decide),if_neg (show ¬ (5:Int)=3 by decide),if_neg (show ¬ (5:Int)=4 by decide),if_true,ln_len,List.flatten_cons,List.length_append,ctSs,ctEs];omega
    · obtain rfl := c rfl
      obtain rfl:=a rfl;simp only [tS,if_neg (show ¬ (6:Int)=1 by decide),if_neg (show ¬ (6:Int)=2 by decide),if_neg (show ¬ (6:Int)=3 by decide),if_neg (show ¬ (6:Int)=4 by decide),if_neg (show ¬ (6:Int)=5 by decide),if_true,ln_len,List.flatten_cons,List.length_append,ctSs];omega
    · obtain rfl := c rfl
      obtain rfl:=a rfl;have h0:e=[]:=List.eq_nil_of_length_eq_zero (by have:=eq_of_beq q;have D:(shp 7).2.2.1=0:=rfl;omega)
      subst h0;simp only [tS,if_neg (show ¬ (7:Int)=1 by decide),if_neg (show ¬ (7:Int)=2 by decide),if_neg (show ¬ (7:Int)=3 by decide),if_neg (show ¬ (7:Int)=4 by decide),if_neg (show ¬ (7:Int)=5 by decide),if_neg (show ¬ (7:Int)=6 by decide),ln_len,List.flatten_cons,List.length_append,ctSs,ctEs];omega
   simp only [ctSs,ctS,tSs,List.length_append];omega
theorem cat_len (l:List ByteArray):(cat l).length=(l.map fun s=>s.data.toList.length).sum:=by
 unfold cat;induction l with
 | nil=>rfl
 | cons x r ih=>rw [List.flatMap_cons,List.length_append,ih,List.map_cons,List.sum_cons]
theorem dParts_ge:∀ (s:ByteArray) (l:List Dc),(∀ d∈l,nameB d.name=true)->l.length<=((dParts s l).map fun s=>s.data.toList.length).sum
 | s,[],_=>Nat.zero_le _
 | s, d :: r, h => by
   have h1:=dParts_ge cmS r (fun x hx=>h x (.tail _ hx))
   have h2:=name_pos (h d (.head _))
   simp only [dParts,List.map_append,List.sum_append,List.length_cons]
   have:1<=((dPart s d).map fun s=>s.data.toList.length).sum:=by
    unfold dPart;simp only [List.map_cons,List.sum_cons];omega
   omega
theorem tDs_ge (word:ByteArray) (l:List Dc) (d:Nat) (h:∀ x∈l,nameB x.name=true):l.length<=(tDs word l d).length:=by
 unfold tDs;split
 · omega
 · have := dParts_ge spS l h
   simp only [List.length_append,cat_len,List.map_cons,List.map_append,List.sum_cons,List.sum_append];omega
theorem ctP_t {x:Pg} (h:rP x=true):ctP x<=(tP x).length:=by
 simp only [rP,Bool.and_eq_true] at h;obtain ⟨m,p,k⟩:=h;have j:∀ d∈x.shared,nameB d.name=true:=fun d hd=>by
  have:=List.all_eq_true.1 (show x.shared.all _=true from m) d hd
  simp only [Bool.and_eq_true] at this;exact this.1
 have f:∀ {l:List Dc},bareB l=true->∀ d∈l,nameB d.name=true:=fun {l} hb d hd=>by
  have:=List.all_eq_true.1 (show l.all _=true from hb) d hd
  simp only [Bool.and_eq_true] at this;exact this.1
 have o:∀ l:List Th,l.all thB=true->ctTs l<=(l.flatMap tT).length:=by
  intro l;induction l with
  | nil=>intro _;exact Nat.zero_le _
  | cons t r ih =>
    intro c;simp only [List.all_cons,Bool.and_eq_true] at c;obtain ⟨a,b⟩:=c;have i:=ih b;simp only [thB,rB,Bool.and_eq_true] at a;have n:=tDs_ge ⟨#[108,111,99,97,108]⟩ t.locals 1 (f a.2.1);have g:=ctSs_t t.body 1 1 a.2.2.2;simp only [ctTs,List.flatMap_cons,List.length_append,tT,ln_len];omega
 have n:=tDs_ge ⟨#[115,104,97,114,101,100]⟩ x.shared 0 j;have g:=tDs_ge ⟨#[108,111,99,107]⟩ x.locks 0 (f p);have q:=o x.threads k;unfold ctP tP;simp only [List.length_append];omega
theorem nm_fit {n:ByteArray} {b:Bool} (h:nmB n b=true):nmOk n:=by
 unfold nmOk;cases b with
 | true=>have:=name_size (show nameB n=true from h);omega
 | false =>
   have:n.data.toList=[]:=eq_of_beq (show (n.data.toList==[])=true from h)
   have a:n.size=n.data.toList.length:=Array.length_toList.symm;rw [a,this];simp
theorem fitEs_r:∀ l:List Ex,(∀ f∈rEs l,∃ d,f d=true)->ctEs l<=1048576->fitEs l:=by
 intro l;induction l using Exs.ind with
 | h0=>intro _ _;trivial
 | h1 k o wd nm ks p r ih1 ih2 =>
   intro h g;simp only [rEs,List.mem_cons] at h;obtain ⟨d,b⟩:=h _ (.inl rfl);simp only [ctEs,ctE] at g;simp only [rE,Bool.and_eq_true] at b;obtain ⟨_,_,i,a⟩:=b;have c:=ctEs_len ks;refine ⟨⟨nm_fit i,by omega,ih1 (fun f hf=>?_) (by omega)⟩,ih2 (fun f hf=>h f (.inr hf)) (by omega)⟩
   unfold kB at a;split at a
   · simp only [Bool.and_eq_true, List.isEmpty_iff] at a
     obtain ⟨_,rfl⟩:=a;simp [rEs] at hf
   · split at a
     · simp only [Bool.and_eq_true] at a
       exact kid1_in a.2 (rEs_len ks) f hf
     · split at a
       · simp only [Bool.and_eq_true] at a
         exact kid2_in a.2 (rEs_len ks) f hf
       · cases a
theorem fit_allE {l:List Ex} (h:allE l=true) (hc:ctEs l<=1048576):fitEs l:=by
 have a:∀ l:List Ex,allE l=(rEs l).all (fun f=>f 0):=by
  intro l;unfold allE;induction l with
  | nil=>rfl
  | cons x r ih=>simp only [List.all_cons,rEs,ih]
 rw [a,List.all_eq_true] at h;exact fitEs_r l (fun f hf=>⟨0,h f hf⟩) hc
theorem fitSs_r:∀ (l:List St) (dd:Int),rAll l dd=true->ctSs l<=1048576->fitSs l:=by
 intro l;induction l using Sts.ind with
 | h0=>intro dd _ _;trivial
 | h1 k n o e b l p r ih1 ih2 ih3 =>
   intro dd h m;simp only [rAll,Bool.and_eq_true] at h;obtain ⟨c,j⟩:=h;simp only [ctSs,ctS] at m;simp only [rS,Bool.and_eq_true,Bool.or_eq_true,decide_eq_true_eq] at c;obtain ⟨v,A,f,q,B,i,x,d,g,s⟩:=c;have y:=ctEs_len e;have z:=ctSs_len b;have t:=ctSs_len l;refine ⟨⟨nm_fit f,nm_fit q,⟨by omega,fit_allE d (by omega)⟩,⟨by omega,?_⟩,by omega,?_⟩,ih3 dd j (by omega)⟩
   · rcases g with h | h
     · rcases i with a | a
       · rw [a] at h;cases h
       · obtain rfl : b = [] := List.eq_nil_of_length_eq_zero (by have := eq_of_beq a; omega)
         trivial
     · exact ih1 _ h.2 (by omega)
   · rcases s with h | h
     · obtain rfl : l = [] := by simpa using h
       trivial
     · exact ih2 _ h.2 (by omega)
theorem fitP_r {x:Pg} (h:rP x=true) (hc:ctP x<=1048576):fitP x:=by
 have n:=h;simp only [rP,Bool.and_eq_true] at h;obtain ⟨i,k,f⟩:=h;have b:∀ {l:List Dc},(∀ d∈l,nameB d.name=true)->fitDs l:=fun {l} hb d hd=>by
  have:=name_size (hb d hd);show nmOk d.name;unfold nmOk;omega
 have c:∀ {l:List Dc},bareB l=true->∀ d∈l,nameB d.name=true:=fun {l} hb d hd=>by
  have:=List.all_eq_true.1 (show l.all _=true from hb) d hd
  simp only [Bool.and_eq_true] at this;exact this.1
 have g:∀ d∈x.shared,nameB d.name=true:=fun d hd=>by
  have:=List.all_eq_true.1 (show x.shared.all _=true from i) d hd
  simp only [Bool.and_eq_true] at this;exact this.1
 unfold ctP at hc;have lt:=ctTs_len x.threads;refine ⟨⟨by omega,b g⟩,⟨by omega,b (c k)⟩,by omega,fun t ht=>?_⟩
 have a:=List.all_eq_true.1 f t ht;simp only [thB,rB,Bool.and_eq_true] at a;have j:=ctTs_mem ht;unfold ctT at j;have m:=ctSs_len t.body;refine ⟨?_,⟨by omega,b (c a.2.1)⟩,by omega,fitSs_r _ _ a.2.2.2 (by omega)⟩
 have:=name_size a.1;unfold nmOk;omega
set_option linter.unusedSimpArgs false
theorem sameEs_b:∀ l m:List Ex,sameEs l m=true->exsBare l=exsBare m:=by
 intro l;induction l using Exs.ind with
 | h0 =>
   intro m h;cases m with
   | nil=>rfl
   | cons y s=>simp [sameEs] at h
 | h1 k o wd nm ks p r ih1 ih2 =>
   intro m h;cases m with
   | nil=>simp [sameEs] at h
   | cons y s =>
     obtain ⟨q,n,d,i,f,t⟩:=y;simp only [sameEs,sameE,Bool.and_eq_true] at h;obtain ⟨⟨⟨⟨⟨h1,j⟩,a⟩,g⟩,c⟩,b⟩:=h;obtain rfl:=eq_of_beq h1;obtain rfl:=eq_of_beq j;obtain rfl:=eq_of_beq a;obtain rfl:=bytes_same g;simp only [exsBare,Ex.bare,ih1 _ c,ih2 _ b]
theorem sameSs_b:∀ l m:List St,sameSs l m=true->stsBare l=stsBare m:=by
 intro l;induction l using Sts.ind with
 | h0 =>
   intro m h;cases m with
   | nil=>rfl
   | cons y s=>simp [sameSs] at h
 | h1 k n o e b l p r ih1 ih2 ih3 =>
   intro m h;cases m with
   | nil=>simp [sameSs] at h
   | cons y s =>
     obtain ⟨t,x,q,A,j,z,v⟩:=y;simp only [sameSs,sameS,Bool.and_eq_true] at h;obtain ⟨⟨⟨⟨⟨⟨h1,i⟩,a⟩,g⟩,d⟩,c⟩,f⟩:=h;obtain rfl:=eq_of_beq h1;obtain rfl:=bytes_same i;obtain rfl:=bytes_same a;simp only [stsBare,St.bare,sameEs_b _ _ g,ih1 _ d,ih2 _ c,ih3 _ f]
theorem sameDs_b:∀ l m:List Dc,sameBy sameD l m=true->l.map Dc.bare=m.map Dc.bare
 | [],[],_=>rfl
 | [],_::_,h=>by simp [sameBy] at h
 | _::_,[],h=>by simp [sameBy] at h
 | x :: r, y :: s, h => by
   simp only [sameBy,sameD,Bool.and_eq_true] at h
   obtain ⟨n,wd,p⟩:=x
   obtain ⟨n',wd',p'⟩:=y
   obtain ⟨⟨h1,h2⟩,h3⟩:=h
   obtain rfl:=bytes_same h1
   obtain rfl:=eq_of_beq h2
   rw [List.map_cons,List.map_cons,sameDs_b r s h3];rfl
theorem sameTs_b:∀ l m:List Th,sameBy sameT l m=true->l.map Th.bare=m.map Th.bare
 | [],[],_=>rfl
 | [],_::_,h=>by simp [sameBy] at h
 | _::_,[],h=>by simp [sameBy] at h
 | x :: r, y :: s, h => by
   simp only [sameBy,sameT,Bool.and_eq_true] at h
   obtain ⟨n,lo,bo,p⟩:=x
   obtain ⟨n',lo',bo',p'⟩:=y
   obtain ⟨⟨⟨h1,h2⟩,h3⟩,h4⟩:=h
   obtain rfl:=bytes_same h1
   rw [List.map_cons,List.map_cons,sameTs_b r s h4]
   simp only [Th.bare,sameDs_b _ _ h2,sameSs_b _ _ h3]
theorem samePg_b {x y:Pg} (h:samePg x y=true):x.bare=y.bare:=by
 unfold samePg at h;simp only [Bool.and_eq_true] at h;simp only [Pg.bare,sameDs_b _ _ h.1.1,sameDs_b _ _ h.1.2,sameTs_b _ _ h.2]
theorem samePg_sym {x y:Pg} (h:samePg x y=true):samePg y x=true:=bare_samePg _ _ (samePg_b h).symm
theorem cntEs_bare:∀ l:List Ex,cntEs (exsBare l)=cntEs l:=by
 intro l;induction l using Exs.ind with
 | h0=>rfl
 | h1 k o wd nm ks p r ih1 ih2=>simp only [exsBare,Ex.bare,cntEs,cntE,ih1,ih2]
theorem szNs_bare:∀ l:List St,szNs (stsBare l)=szNs l:=by
 intro l;induction l using Sts.ind with
 | h0=>rfl
 | h1 k n o e b l p r ih1 ih2 ih3=>simp only [stsBare,St.bare,szNs,szN,ih1,ih2,ih3]
theorem szKs_bare:∀ l:List St,szKs (stsBare l)=szKs l:=by
 intro l;induction l using Sts.ind with
 | h0=>rfl
 | h1 k n o e b l p r ih1 ih2 ih3=>simp only [stsBare,St.bare,szKs,szK,cntEs_bare,ih1,ih2,ih3]
theorem stsBare_empty (l:List St):(stsBare l).isEmpty=l.isEmpty:=by cases l <;> rfl
theorem dpSs_bare:∀ l:List St,dpSs (stsBare l)=dpSs l:=by
 intro l;induction l using Sts.ind with
 | h0=>rfl
 | h1 k n o e b l p r ih1 ih2 ih3=>simp only [stsBare,St.bare,dpSs,dpS,stsBare_empty,ih1,ih2,ih3]
theorem szTN_bare:∀ l:List Th,szTN (l.map Th.bare)=szTN l
 | []=>rfl
 | t::r=>by simp only [List.map_cons,szTN,Th.bare,szNs_bare,szTN_bare r]
theorem szTK_bare:∀ l:List Th,szTK (l.map Th.bare)=szTK l
 | []=>rfl
 | t::r=>by simp only [List.map_cons,szTK,Th.bare,szKs_bare,szTK_bare r]
theorem dpT_bare:∀ l:List Th,dpT (l.map Th.bare)=dpT l
 | []=>rfl
 | t::r=>by simp only [List.map_cons,dpT,Th.bare,dpSs_bare,dpT_bare r]
theorem same_sizes {x y:Pg} (h:samePg x y=true):szTN x.threads=szTN y.threads/\szTK x.threads=szTK y.threads/\dpT x.threads=dpT y.threads:=by
 have e:x.threads.map Th.bare=y.threads.map Th.bare:=congrArg Pg.threads (samePg_b h);exact ⟨by rw [<- szTN_bare,e,szTN_bare],by rw [<- szTK_bare,e,szTK_bare],by rw [<- dpT_bare,e,dpT_bare]⟩
section
variable {g:ByteArray->ByteArray}
theorem cntEs_ren:∀ l:List Ex,cntEs (exsRen g l)=cntEs l:=by
 intro l;induction l using Exs.ind with
 | h0=>rfl
 | h1 k o wd nm ks p r ih1 ih2=>simp only [exsRen,Ex.ren,cntEs,cntE,ih1,ih2]
theorem szNs_ren:∀ l:List St,szNs (stsRen g l)=szNs l:=by
 intro l;induction l using Sts.ind with
 | h0=>rfl
 | h1 k n o e b l p r ih1 ih2 ih3=>simp only [stsRen,St.ren,szNs,szN,ih1,ih2,ih3]
theorem szKs_ren:∀ l:List St,szKs (stsRen g l)=szKs l:=by
 intro l;induction l using Sts.ind with
 | h0=>rfl
 | h1 k n o e b l p r ih1 ih2 ih3=>simp only [stsRen,St.ren,szKs,szK,cntEs_ren,ih1,ih2,ih3]
theorem stsRen_empty (l:List St):(stsRen g l).isEmpty=l.isEmpty:=by cases l <;> rfl
theorem dpSs_ren:∀ l:List St,dpSs (stsRen g l)=dpSs l:=by
 intro l;induction l using Sts.ind with
 | h0=>rfl
 | h1 k n o e b l p r ih1 ih2 ih3=>simp only [stsRen,St.ren,dpSs,dpS,stsRen_empty,ih1,ih2,ih3]
theorem szTN_ren:∀ l:List Th,szTN (l.map (Th.ren g))=szTN l
 | []=>rfl
 | t::r=>by simp only [List.map_cons,szTN,Th.ren,szNs_ren,szTN_ren r]
theorem szTK_ren:∀ l:List Th,szTK (l.map (Th.ren g))=szTK l
 | []=>rfl
 | t::r=>by simp only [List.map_cons,szTK,Th.ren,szKs_ren,szTK_ren r]
theorem dpT_ren:∀ l:List Th,dpT (l.map (Th.ren g))=dpT l
 | []=>rfl
 | t::r=>by simp only [List.map_cons,dpT,Th.ren,dpSs_ren,dpT_ren r]
end
theorem dpSs_ct:∀ l:List St,dpSs l<=(ctSs l:Int)+1:=by
 intro l;induction l using Sts.ind with
 | h0=>simp [dpSs,ctSs]
 | h1 k n o e b l p r ih1 ih2 ih3 =>
   have h:dpS (.mk k n o e b l p)<=(ctSs b:Int)+(ctSs l:Int)+1:=by
    unfold dpS;split
    · by_cases hl : l.isEmpty = true
      · rw [if_pos hl];omega
      · rw [if_neg hl];omega
    · omega
   simp only [dpSs,ctSs,ctS];push_cast;omega
theorem dpT_ct:∀ l:List Th,dpT l<=(ctTs l:Int)+1
 | []=>by simp [dpT,ctTs]
 | t :: r => by
   have h1:=dpT_ct r
   have h2:=dpSs_ct t.body
   simp only [dpT,ctTs]
   push_cast
   omega
open Go.RowKit
set_option linter.unusedVariables false
structure WTc (W:World):Prop where
 wtb:WTb W
 long:LTabs W
theorem WTc.below {W W':World} (T:WTc W) (h:Below W.heap.size W W'):WTc W':=⟨T.wtb.below h,T.long.below (Nat.le_refl _) h⟩
theorem t_plus (a b:Int) (w:World):Calls Tryz.prog 69 #[.int .i64 a,.int .i64 b] w fun e w'=>e=.returned (.int .i64 (wrap64 (a+b)))/\w=w':=by
 go_enter Tryz.func69,Tryz.ntmps69;go_wp2;go_ret;exact ⟨rfl,rfl⟩
theorem t_do (a b:Int) (w:World) (T:Tabs w):Calls Tryz.prog 11 #[.int .u8 1,.int .i64 a,.int .i64 b] w fun e w'=>e=.returned (.tuple #[.int .i64 (wrap64 (a+b)),.int .i64 0])/\Below w.heap.size w w':=by
 have g:=Hd (two_yes 1 (by decide) (by decide) (by decide) (by decide) w T)
 have d:∀ w,(Instr.index 82 opsV (.int .u8 1)).run Tryz.prog w=.ok (.agg #[.func (.func 69) #[] #[],.nilFunc]) w:=fun _=>by kernel_rfl
 have c:∀ w,(Instr.field 81 (.agg #[.func (.func 69) #[] #[],.nilFunc]) 0).run Tryz.prog w=.ok (.func (.func 69) #[] #[]) w:=fun _=>by kernel_rfl
 clear T;go_enter Tryz.func11,Tryz.ntmps11;go_wp2_with (first | (go_at_call 32;refine (g.out).mono ?_;rintro e w' ⟨rfl,rfl⟩) | (go_at_call 33;refine (ops_any _).mono ?_;rintro e i ⟨rfl,f⟩) | (go_at_call 69;refine (t_plus _ _ _).mono ?_;rintro e w' ⟨rfl,rfl⟩))
 go_ret2;exact ⟨rfl,f⟩
def textQ:ByteArray:=⟨#[120,32,61,32,49,50,59]⟩
theorem frontQ:frontR textQ=([⟨1,⟨#[120]⟩,0,0,0,0⟩,⟨4,⟨#[61]⟩,0,2,0,0⟩,⟨3,⟨#[49,50]⟩,12,4,0,0⟩,⟨4,⟨#[59]⟩,0,6,0,0⟩],0,0):=by kernel_rfl
theorem scanQ:scanX textQ=([⟨1,⟨#[120]⟩,0,0,0,0⟩,⟨4,⟨#[61]⟩,0,2,0,0⟩,⟨3,⟨#[49,50]⟩,12,4,0,0⟩,⟨4,⟨#[59]⟩,0,6,0,0⟩],0,0,0):=by
 unfold scanX;rw [if_neg (by decide),frontQ];rfl
theorem t_begins (w:World) (T:WTc w):Calls Tryz.prog 4 #[] w fun e w'=>e=.returned (.bool true)/\Below w.heap.size w w':=by
 have x:Hid (Calls Tryz.prog 11 #[.int .u8 1,.int .i64 2,.int .i64 3] w fun e w'=>e=.returned (.tuple #[.int .i64 5,.int .i64 0])/\Below w.heap.size w w'):=by
  have k:=t_do 2 3 w T.wtb.pt.1.2;have e:wrap64 (2+3)=5:=by unfold wrap64;decide
  rw [e] at k;exact k
 have C:Hid (∀ W,WTc W->Calls Tryz.prog 12 #[.string ⟨#[120,32,61,32,49,50,59]⟩] W fun e w'=>∃ g a b,e=.returned (.tuple #[.slice (some ⟨g,a,none⟩) 4 b,.int .i64 0,.agg #[.int .i64 0,.int .i64 0]])/\w'.cell? ⟨g,a+8,none⟩=some (.int .u8 3)/\w'.cell? ⟨g,a+8+2,none⟩=some (.int .i64 12)/\Below W.heap.size W w'):=fun W TW=>by
  refine (scan_row textQ TW.long).mono ?_;rintro e w' ⟨u,rfl,o,_,v⟩;rw [scanQ] at o ⊢;obtain ⟨D,b,rfl,y⟩:=tokRow_owns o;obtain ⟨g,a,rfl,j,H,m,E⟩:=y 2 _ rfl;exact ⟨g,a,b,rfl,j,m,v⟩
 have z:Hid (∀ W,WTc W->Calls Tryz.prog 13 #[.int .i64 (-7)] W fun e w'=>e=.returned (.string ⟨#[45,55]⟩)/\Below W.heap.size W w'):=fun W TW=>by
  have k:=print_any (-7) (by decide) (by decide) W TW.wtb
  have e:Lib.itoa (-7)=[45,55]:=by
   show 45::Lib.decDigits 7=_;rw [Lib.decDigits_one (by decide)];rfl
  simpa [e] using k
 have t:=Hd T;clear T;go_enter Tryz.func4,Tryz.ntmps4;go_wp2_with (go_at_call 11;refine (x.out).mono ?_;rintro e G ⟨rfl,f⟩;have r:=Hd (t.out.below f);have n:=Hd f;clear f);refine (C.out _ r.out).mono ?_;rintro e l ⟨g,a,b,rfl,j,m,d⟩;have i:=(Below.refl l.heap.size l).alloc (Nat.le_refl _) (.cells #[.int .i64 0,.int .i64 0] 29);have B:=Hd ((r.out.below d).below i);have q:=Hd ((n.out.trans (d.mono n.out.size)).trans (i.mono (by have:=n.out.size;have:=d.size;omega)))
 have s:g<l.heap.size:=lt_of_at j;clear d;go_wp2_with fail;refine (z.out _ B.out).mono ?_;rintro e J ⟨rfl,c⟩;have F:=(c.cell (p:=⟨g,a+8,none⟩) (by simp;omega)).trans ((i.cell (p:=⟨g,a+8,none⟩) s).trans j)
 have I:=(c.cell (p:=⟨g,a+8+2,none⟩) (by simp;omega)).trans ((i.cell (p:=⟨g,a+8+2,none⟩) s).trans m)
 have A:=Hd (q.out.trans (c.mono q.out.size));clear c;go_wp2_with fail;go_ret;exact ⟨rfl,A.out⟩
end Go.Proofs.YtbgfkdiihnidaaaGreatDoor

import Derived.Test.YtbgfkdiihnidaaaGreatDoorQBB
import Derived.Test.YtbgfkdiihnidaaaGreatDoorQAD
import Derived.Test.YtbgfkdiihnidaaaGreatDoorQAA
import Derived.Test.YtbgfkdiihnidaaaGreatDoorQAO
import Derived.Deep.RegionWith
import Derived.Deep.CutBlock
import Derived.Test.YtbgfkdiihnidaaaGreatDoorQBA
import Derived.Maps.OwnIn
import Derived.Sort.KeysCollected
set_option maxRecDepth 100000
set_option maxHeartbeats 20000000
namespace Go.Proofs.YtbgfkdiihnidaaaGreatDoor
open Go.RowKit
set_option linter.unusedVariables false
structure VpN (k1:Value) (R:Nat->Prop) (w0:World) (Gd:List Vz->Prop) (P:List Vz->World->Prop):Prop where
 keep:∀ {V:List Vz} {W W':World},P V W->Below W.heap.size W W'->P V W'
 sk:∀ {V:List Vz} {W:World},P V W->Sk w0 W
 pre:∀ {A B:List Vz},Gd (A++B)->Gd A
 step:∀ {V:List Vz} {v:Vz} {W:World} {s:Value},P V W->Vok R w0 v->NmS w0 W v.nm s->Gd (V++[v])->Calls Tryz.prog 60 #[.pointer (some v.pl),s,k1] W fun e W'=>e=.returned (.tuple #[])/\P (V++[v]) W'/\∀ b,w0.heap.size<=b->b<W.heap.size->W'.heap[b]? = W.heap[b]?
theorem p_eachDeclN {k1:Value} {R:Nat->Prop} {w0:World} {Gd:List Vz->Prop} {P:List Vz->World->Prop} (H:VpN k1 R w0 Gd P) {l:List Dc} (hl:l.length<=9223372036854775807) {a:Option Addr} {c:Nat} {V:List Vz} {w:World} (h1:dcsAt R w0 l a) (h2:P V w) (hv0:Gd (V++vDsA w0 l a)) :
 Calls Tryz.prog 119 #[.slice a l.length c,.func (.func 60) #[] #[k1]] w fun e w'=>e=.returned (.tuple #[])/\P (V++vDsA w0 l a) w':=by
 have H:=Hd H;have O:=Hd h1;have o:=Hd h2;have t:=Hd hv0;obtain ⟨n,y⟩:=Qx l.length;rw [<- y] at hl ⊢;have G:=Hd y;clear h1 h2 y hv0;go_enter Tryz.func119,Tryz.ntmps119;go_wp2_with fail;go_loopg [7] (n+1) (fun m' u W=>∃ i:Nat,u=.int .i64 (i:Int)/\i<=n/\m'=n-i+1/\P (V++vDsA w0 (l.take i) a) W)
 case atStart=>exact ⟨0,rfl,Nat.zero_le _,by omega,by rw [List.take_zero,vDsA_nil,List.append_nil];exact o.out⟩
 case round =>
  obtain ⟨i,rfl,T,E,j⟩:=hrel;have M:=Hd E;have d:=Hd j;clear E j o;by_cases hin:i<n
  · have p : i < l.length := by have := G.out; omega
    have s:l[i]? = some l[i]:=List.getElem?_eq_getElem p;have b:l[i]∈l:=List.getElem_mem p;generalize l[i]=x at s b;rcases O.out with e | ⟨g,q,e,L,D⟩
    · cases l with
      | nil=>simp at p
      | cons=>cases e
    obtain rfl:a=some ⟨g,q,none⟩:=e;have Q:=dcsIn_get i x D s;have B:Hid (vDsA w0 (l.take (i+1)) (some ⟨g,q,none⟩)=vDsA w0 (l.take i) (some ⟨g,q,none⟩)++vD w0 x g (q+i*3)):=vDs_take w0 l i g q x s;have f:Hid (Gd (V++vDsA w0 (l.take (i+1)) (some ⟨g,q,none⟩))):=by
     obtain ⟨r,N⟩:=vDsA_split w0 l (i+1) (some ⟨g,q,none⟩);have k:=t.out;rw [N,<- List.append_assoc] at k;exact H.out.pre k
    have I:(i:Int)<(n:Int):=by omega
    have m:=H.out.sk d.out;have A:=Hd m.1;obtain ⟨J,F,C⟩:=Q;have K:Hid (∀ W,Below wr.heap.size wr W->Calls Tryz.prog 60 #[.pointer (some ⟨g,q+i*3+2,none⟩),.slice (some ⟨W.heap.size,0,none⟩) 1 1,k1] (W.alloc (.cells #[.pointer (some ⟨g,q+i*3,none⟩)] 129)) fun e' w'=>e'=.returned (.tuple #[])/\P (V++vDsA w0 (l.take (i+1)) (some ⟨g,q,none⟩)) w'):=fun W hW=>by
     rw [B.out,<- List.append_assoc];exact (H.out.step (v:=⟨⟨g,q+i*3+2,none⟩,[⟨g,q+i*3,none⟩]⟩) (H.out.keep d.out (hW.alloc hW.size _)) (vok_dc L J F C) (nms_one (Nat.le_trans A.out hW.size)) (by have k:=f.out;rw [B.out,<- List.append_assoc] at k;exact k)).mono fun _ _ h=>⟨h.1,h.2.1⟩
    clear s D p J F C b m B L d f;go_wp2_with fail;go_region_with (go_at_call 60;refine (K.out _ (below_drewN (Below.refl _ _) _)).mono ?_;rintro e S ⟨rfl,j⟩);have d:=Hd j;clear j K;go_wp2_with fail;go_roundg (n-(i+1)+1)
    case measure=>have:=M.out;omega
    case rel=>exact ⟨i+1,rfl,by omega,by omega,d.out⟩
  · have : i = n := by omega
    subst this;have z:Hid (P (V++vDsA w0 l a) wr):=by
     have:=d.out;rwa [List.take_of_length_le (by have:=G.out;omega)] at this
    clear d;go_wp2_with fail;exact bodyPost_end (results_none rfl _ _ _) rfl ⟨rfl,z.out⟩
def VisEN (k1 : Value) (R : Nat -> Prop) (w0 : World) (Gd : List Vz -> Prop) (P : List Vz -> World -> Prop) (l : List Ex) : Prop := okEs l -> l.length <= 9223372036854775807 -> ∀ (a : Option Addr) (c : Nat) (V : List Vz) (w : World), exsAt R w0 l a -> P V w -> Gd (V ++ vEsA w0 l a) ->
    Calls Tryz.prog 159 #[.slice a l.length c,.func (.func 60) #[] #[k1]] w fun e w'=>e=.returned (.tuple #[])/\P (V++vEsA w0 l a) w'
theorem vis_exsN {k1:Value} {R:Nat->Prop} {w0:World} {Gd:List Vz->Prop} {P:List Vz->World->Prop} (H:VpN k1 R w0 Gd P) {l:List Ex} (HI:∀ x∈l,VisEN k1 R w0 Gd P x.kids):VisEN k1 R w0 Gd P l:=by
 intro HO hl a c V w h1 h2 E;have HI:=Hd HI;have HO:=Hd HO;have H:=Hd H;have E1:=Hd h1;have K:=Hd h2;have X:=Hd E;obtain ⟨n,Y⟩:=Qx l.length;rw [<- Y] at hl ⊢;have HN:=Hd Y;clear h1 h2 Y E;go_enter Tryz.func159,Tryz.ntmps159;go_wp2_with fail;go_loopg [8] (n+1) (fun m' u W=>∃ i:Nat,u=.int .i64 (i:Int)/\i<=n/\m'=n-i+1/\P (V++vEsA w0 (l.take i) a) W)
 case atStart=>exact ⟨0,rfl,Nat.zero_le _,by omega,by rw [List.take_zero,vEsA_nil,List.append_nil];exact K.out⟩
 case round =>
  obtain ⟨i,rfl,hi,hm,d⟩:=hrel;have HM:=Hd hm;have j:=Hd d;clear hm d K;by_cases hin:i<n
  · have F : i < l.length := by have := HN.out; omega
    have G:l[i]? = some l[i]:=List.getElem?_eq_getElem F;have b:l[i]∈l:=List.getElem_mem F;generalize l[i]=x at G b;rcases E1.out with e | ⟨g,q,e,U,e1⟩
    · cases l with
      | nil=>simp at F
      | cons=>cases e
    obtain rfl:a=some ⟨g,q,none⟩:=e;have x1:=exsIn_get i x e1 G;have C:Hid (vEsA w0 (l.take (i+1)) (some ⟨g,q,none⟩)=vEsA w0 (l.take i) (some ⟨g,q,none⟩)++vE w0 x g (q+i*6)):=vEs_take w0 l i g q x G;have z:Hid (Gd (V++vEsA w0 (l.take (i+1)) (some ⟨g,q,none⟩))):=by
     obtain ⟨r,hr⟩:=vEsA_split w0 l (i+1) (some ⟨g,q,none⟩);have A:=X.out;rw [hr,<- List.append_assoc] at A;exact H.out.pre A
    have an:(i:Int)<(n:Int):=by omega
    have s:=H.out.sk j.out;have ad:=Hd s.1;have ac:=okEs_mem HO.out x b;have O:=Hd (HI.out x b);obtain ⟨k,o,wd,nm,p,ps⟩:=x;obtain ⟨T,a1,a2,M,⟨m,B,t,y⟩,Q⟩:=x1;obtain ⟨N,S⟩:=ac;by_cases hk:k=2
    · have f : Gd (V ++ vEsA w0 (l.take i) (some ⟨g, q, none⟩) ++ [⟨⟨g, q + i * 6 + 5, none⟩, [⟨g, q + i * 6 + 3, none⟩]⟩] ++ vEsA w0 p m) := by
       have A:=z.out;rw [C.out,vE,if_pos hk,kE_of t y] at A;simpa only [List.append_assoc,List.cons_append,List.nil_append] using A
      have L:Hid (∀ W,Below wr.heap.size wr W->Calls Tryz.prog 60 #[.pointer (some ⟨g,q+i*6+5,none⟩),.slice (some ⟨W.heap.size,0,none⟩) 1 1,k1] (W.alloc (.cells #[.pointer (some ⟨g,q+i*6+3,none⟩)] 129)) fun e' w'=>e'=.returned (.tuple #[])/\P (V++vEsA w0 (l.take i) (some ⟨g,q,none⟩)++[⟨⟨g,q+i*6+5,none⟩,[⟨g,q+i*6+3,none⟩]⟩]) w'):=fun W hW=>by
       have D:=vok_ex (k:=k) U M t Q;rw [if_pos hk] at D;exact (H.out.step (v:=⟨⟨g,q+i*6+5,none⟩,[⟨g,q+i*6+3,none⟩]⟩) (H.out.keep j.out (hW.alloc hW.size _)) D (nms_one (Nat.le_trans ad.out hW.size)) (H.out.pre f)).mono fun _ _ h=>⟨h.1,h.2.1⟩
      have J:Hid (∀ W,P (V++vEsA w0 (l.take i) (some ⟨g,q,none⟩)++[⟨⟨g,q+i*6+5,none⟩,[⟨g,q+i*6+3,none⟩]⟩]) W->Calls Tryz.prog 159 #[.slice m p.length B,.func (.func 60) #[] #[k1]] W fun e' w'=>e'=.returned (.tuple #[])/\P (V++vEsA w0 (l.take (i+1)) (some ⟨g,q,none⟩)) w'):=fun W hW=>by
       have this:Calls Tryz.prog 159 #[.slice m p.length B,.func (.func 60) #[] #[k1]] W fun e' w'=>e'=.returned (.tuple #[])/\P (V++vEsA w0 (l.take i) (some ⟨g,q,none⟩)++[⟨⟨g,q+i*6+5,none⟩,[⟨g,q+i*6+3,none⟩]⟩]++vEsA w0 p m) w':=O.out S N m B _ W y hW f
       rw [C.out,vE,if_pos hk,kE_of t y,<- List.append_assoc];simpa only [List.append_assoc,List.cons_append,List.nil_append] using this
      have I:Hid (∀ W,P (V++vEsA w0 (l.take i) (some ⟨g,q,none⟩)++[⟨⟨g,q+i*6+5,none⟩,[⟨g,q+i*6+3,none⟩]⟩]) W->W.cell? ⟨g,q+i*6+4,none⟩=some (.slice m p.length B)):=fun W hW=>(H.out.sk hW).sl t
      have Z:wr.cell? ⟨g,q+i*6,none⟩=some (.int .u8 2):=by rw [<- hk];exact s.u8 T
      clear G e1 F T a1 a2 M t Q b s C U O y N S f z hk;generalize p.length=nk at *;go_wp2_with fail;go_region_with (go_at_call 60;refine (L.out _ (below_drewN (Below.refl _ _) _)).mono ?_;rintro e w3 ⟨rfl,d⟩);have j:=Hd d;have b4:=I.out _ d;clear d L Z;go_wp2_with fail;go_at_call 159;refine (J.out _ j.out).mono ?_;rintro e y ⟨rfl,d⟩;have j:=Hd d;clear d J b4 I;go_wp2_with fail;go_roundg (n-(i+1)+1)
      case measure=>have:=HM.out;omega
      case rel=>exact ⟨i+1,rfl,by omega,by omega,j.out⟩
    · have f : Gd (V ++ vEsA w0 (l.take i) (some ⟨g, q, none⟩) ++ [⟨⟨g, q + i * 6 + 5, none⟩, []⟩] ++ vEsA w0 p m) := by
       have A:=z.out;rw [C.out,vE,if_neg hk,kE_of t y] at A;simpa only [List.append_assoc,List.cons_append,List.nil_append] using A
      have L:Hid (∀ W,Below wr.heap.size wr W->Calls Tryz.prog 60 #[.pointer (some ⟨g,q+i*6+5,none⟩),.slice none 0 0,k1] W fun e' w'=>e'=.returned (.tuple #[])/\P (V++vEsA w0 (l.take i) (some ⟨g,q,none⟩)++[⟨⟨g,q+i*6+5,none⟩,[]⟩]) w'):=fun W hW=>by
       have D:=vok_ex (k:=k) U M t Q;rw [if_neg hk] at D;exact (H.out.step (v:=⟨⟨g,q+i*6+5,none⟩,[]⟩) (H.out.keep j.out hW) D nms_none (H.out.pre f)).mono fun _ _ h=>⟨h.1,h.2.1⟩
      have J:Hid (∀ W,P (V++vEsA w0 (l.take i) (some ⟨g,q,none⟩)++[⟨⟨g,q+i*6+5,none⟩,[]⟩]) W->Calls Tryz.prog 159 #[.slice m p.length B,.func (.func 60) #[] #[k1]] W fun e' w'=>e'=.returned (.tuple #[])/\P (V++vEsA w0 (l.take (i+1)) (some ⟨g,q,none⟩)) w'):=fun W hW=>by
       have this:Calls Tryz.prog 159 #[.slice m p.length B,.func (.func 60) #[] #[k1]] W fun e' w'=>e'=.returned (.tuple #[])/\P (V++vEsA w0 (l.take i) (some ⟨g,q,none⟩)++[⟨⟨g,q+i*6+5,none⟩,[]⟩]++vEsA w0 p m) w':=O.out S N m B _ W y hW f
       rw [C.out,vE,if_neg hk,kE_of t y,<- List.append_assoc];simpa only [List.append_assoc,List.cons_append,List.nil_append] using this
      have I:Hid (∀ W,P (V++vEsA w0 (l.take i) (some ⟨g,q,none⟩)++[⟨⟨g,q+i*6+5,none⟩,[]⟩]) W->W.cell? ⟨g,q+i*6+4,none⟩=some (.slice m p.length B)):=fun W hW=>(H.out.sk hW).sl t
      have Z:wr.cell? ⟨g,q+i*6,none⟩=some (.int .u8 k):=s.u8 T;clear G e1 F T a1 a2 M t Q b s C U O y N S f z;generalize p.length=nk at *;go_wp2_with fail;go_at_call 60;refine (L.out _ (Below.refl _ _)).mono ?_;rintro e w3 ⟨rfl,d⟩;have j:=Hd d;have b4:=I.out _ d;clear d L Z;go_wp2_with fail;go_at_call 159;refine (J.out _ j.out).mono ?_;rintro e y ⟨rfl,d⟩;have j:=Hd d;clear d J b4 I;go_wp2_with fail;go_roundg (n-(i+1)+1)
      case measure=>have:=HM.out;omega
      case rel=>exact ⟨i+1,rfl,by omega,by omega,j.out⟩
  · have : i = n := by omega
    subst this;have ab:Hid (P (V++vEsA w0 l a) wr):=by
     have:=j.out;rwa [List.take_of_length_le (by have:=HN.out;omega)] at this
    clear j;go_wp2_with fail;exact bodyPost_end (results_none rfl _ _ _) rfl ⟨rfl,ab.out⟩
theorem vis_kidsN {k1:Value} {R:Nat->Prop} {w0:World} {Gd:List Vz->Prop} {P:List Vz->World->Prop} (H:VpN k1 R w0 Gd P):∀ e:Ex,VisEN k1 R w0 Gd P e.kids:=by
 intro e;induction e using Ex.ind with
 | h k o w n ks a h=>exact vis_exsN H h
theorem p_eachExprN {k1:Value} {R:Nat->Prop} {w0:World} {Gd:List Vz->Prop} {P:List Vz->World->Prop} (H:VpN k1 R w0 Gd P) (l:List Ex):VisEN k1 R w0 Gd P l:=vis_exsN H fun x _=>vis_kidsN H x
def VisSN (k1 : Value) (R : Nat -> Prop) (w0 : World) (Gd : List Vz -> Prop) (P : List Vz -> World -> Prop) (l : List St) : Prop := okSs l -> l.length <= 9223372036854775807 -> ∀ (a : Option Addr) (c : Nat) (V : List Vz) (w : World), stsAt R w0 l a -> P V w -> Gd (V ++ vSsA w0 l a) ->
    Calls Tryz.prog 120 #[.slice a l.length c,.func (.func 60) #[] #[k1]] w fun e w'=>e=.returned (.tuple #[])/\P (V++vSsA w0 l a) w'
theorem vis_stsN {k1:Value} {R:Nat->Prop} {w0:World} {Gd:List Vz->Prop} {P:List Vz->World->Prop} (H:VpN k1 R w0 Gd P) {l:List St} (HI:∀ x∈l,VisSN k1 R w0 Gd P x.body/\VisSN k1 R w0 Gd P x.els):VisSN k1 R w0 Gd P l:=by
 intro HO hl a c V w h1 h2 C;have HI:=Hd HI;have HO:=Hd HO;have H:=Hd H;have E1:=Hd h1;have J:=Hd h2;have ae:=Hd C;obtain ⟨n,Y⟩:=Qx l.length;rw [<- Y] at hl ⊢;have HN:=Hd Y;clear h1 h2 Y C;go_enter Tryz.func120,Tryz.ntmps120;go_wp2_with fail;go_loopg [8] (n+1) (fun m' u W=>∃ i:Nat,u=.int .i64 (i:Int)/\i<=n/\m'=n-i+1/\P (V++vSsA w0 (l.take i) a) W)
 case atStart=>exact ⟨0,rfl,Nat.zero_le _,by omega,by rw [List.take_zero,vSsA_nil,List.append_nil];exact J.out⟩
 case round =>
  obtain ⟨i,rfl,hi,hm,d⟩:=hrel;have HM:=Hd hm;have o:=Hd d;clear hm d J;by_cases hin:i<n
  · have K : i < l.length := by have := HN.out; omega
    have N:l[i]? = some l[i]:=List.getElem?_eq_getElem K;have j:l[i]∈l:=List.getElem_mem K;generalize l[i]=x at N j;rcases E1.out with e | ⟨g,q,e,hg,e1⟩
    · cases l with
      | nil=>simp at K
      | cons=>cases e
    obtain rfl:a=some ⟨g,q,none⟩:=e;have x1:=stsIn_get i x e1 N;have HV:Hid (vSsA w0 (l.take (i+1)) (some ⟨g,q,none⟩)=vSsA w0 (l.take i) (some ⟨g,q,none⟩)++vS w0 x g (q+i*7)):=vSs_take w0 l i g q x N;have F:Hid (Gd (V++vSsA w0 (l.take (i+1)) (some ⟨g,q,none⟩))):=by
     obtain ⟨r,hr⟩:=vSsA_split w0 l (i+1) (some ⟨g,q,none⟩);have G:=ae.out;rw [hr,<- List.append_assoc] at G;exact H.out.pre G
    have ay:(i:Int)<(n:Int):=by omega
    have I:=H.out.sk o.out;have aa:=Hd I.1;have X:=okSs_mem HO.out x j;have Z:=Hd (HI.out x j);obtain ⟨k,nm,ot,s,z,B,ps⟩:=x;obtain ⟨a0,a1,a2,⟨b,y,M,S⟩,⟨f,A,Q,O⟩,⟨m,t,D,L⟩,a6⟩:=x1;obtain ⟨⟨o1,o2⟩,⟨o3,o4⟩,o5,o6⟩:=X;obtain ⟨U,E⟩:=Qx (V++vSsA w0 (l.take i) (some ⟨g,q,none⟩)++[⟨⟨g,q+i*7+6,none⟩,[⟨g,q+i*7+1,none⟩,⟨g,q+i*7+2,none⟩]⟩]);have p:Gd (U++vEsA w0 s b++vSsA w0 z f++vSsA w0 B m):=by
     have G:=F.out;rw [HV.out,vS,kE_of M S,kS_of Q O,kS_of D L] at G;rw [E];simpa only [List.append_assoc,List.cons_append,List.nil_append] using G
    have HS:Hid (∀ W,Below wr.heap.size wr W->Calls Tryz.prog 60 #[.pointer (some ⟨g,q+i*7+6,none⟩),.slice (some ⟨W.heap.size,0,none⟩) 2 2,k1] (W.alloc (.cells #[.pointer (some ⟨g,q+i*7+1,none⟩),.pointer (some ⟨g,q+i*7+2,none⟩)] 129)) fun e' w'=>e'=.returned (.tuple #[])/\P U w'):=fun W hW=>by
     rw [E];exact (H.out.step (v:=⟨⟨g,q+i*7+6,none⟩,[⟨g,q+i*7+1,none⟩,⟨g,q+i*7+2,none⟩]⟩) (H.out.keep o.out (hW.alloc hW.size _)) (vok_st hg a1 a2 D a6) (nms_two (Nat.le_trans aa.out hW.size)) (by rw [<- E];exact H.out.pre (H.out.pre (H.out.pre p)))).mono fun _ _ h=>⟨h.1,h.2.1⟩
    have H3:Hid (∀ W,P U W->W.cell? ⟨g,q+i*7+3,none⟩=some (.slice b s.length y)/\Calls Tryz.prog 159 #[.slice b s.length y,.func (.func 60) #[] #[k1]] W fun e' w'=>e'=.returned (.tuple #[])/\P (U++vEsA w0 s b) w'):=fun W hW=>⟨(H.out.sk hW).sl M,p_eachExprN H.out s o2 o1 b y _ W S hW (H.out.pre (H.out.pre p))⟩
    have H4:Hid (∀ W,P (U++vEsA w0 s b) W->W.cell? ⟨g,q+i*7+4,none⟩=some (.slice f z.length A)/\Calls Tryz.prog 120 #[.slice f z.length A,.func (.func 60) #[] #[k1]] W fun e' w'=>e'=.returned (.tuple #[])/\P (U++vEsA w0 s b++vSsA w0 z f) w'):=fun W hW=>⟨(H.out.sk hW).sl Q,Z.out.1 o4 o3 f A _ W O hW (H.out.pre p)⟩
    have T:Hid (∀ W,P (U++vEsA w0 s b++vSsA w0 z f) W->W.cell? ⟨g,q+i*7+5,none⟩=some (.slice m B.length t)/\Calls Tryz.prog 120 #[.slice m B.length t,.func (.func 60) #[] #[k1]] W fun e' w'=>e'=.returned (.tuple #[])/\P (V++vSsA w0 (l.take (i+1)) (some ⟨g,q,none⟩)) w'):=fun W hW=>⟨(H.out.sk hW).sl D,by
     have this:Calls Tryz.prog 120 #[.slice m B.length t,.func (.func 60) #[] #[k1]] W fun e' w'=>e'=.returned (.tuple #[])/\P (U++vEsA w0 s b++vSsA w0 z f++vSsA w0 B m) w':=Z.out.2 o6 o5 m t _ W L hW p
     rw [HV.out,vS,kE_of M S,kS_of Q O,kS_of D L,<- List.append_assoc];rw [E] at this
     simpa only [List.append_assoc,List.cons_append,List.nil_append] using this⟩
    clear N e1 K a0 a1 a2 M Q D a6 j I HV hg o Z S O L o1 o2 o3 o4 o5 o6 E p F;generalize s.length=n3 at *;generalize z.length=n4 at *;generalize B.length=n5 at *;go_wp2_with fail;go_region_with (go_at_call 60;refine (HS.out _ (below_drewN (Below.refl _ _) _)).mono ?_;rintro e x3 ⟨rfl,d⟩);have o:=Hd d;have b3:=(H3.out _ d).1;clear d HS;go_wp2_with fail;go_at_call 159;refine ((H3.out _ o.out).2).mono ?_;rintro e x4 ⟨rfl,d⟩;have o:=Hd d;have b4:=(H4.out _ d).1;clear d H3 b3;go_wp2_with fail;go_at_call 120;refine ((H4.out _ o.out).2).mono ?_;rintro e x5 ⟨rfl,d⟩;have o:=Hd d;have b5:=(T.out _ d).1;clear d H4 b4;go_wp2_with fail;go_at_call 120;refine ((T.out _ o.out).2).mono ?_;rintro e x6 ⟨rfl,d⟩;have o:=Hd d;clear d T b5;go_wp2_with fail;go_roundg (n-(i+1)+1)
    case measure=>have:=HM.out;omega
    case rel=>exact ⟨i+1,rfl,by omega,by omega,o.out⟩
  · have : i = n := by omega
    subst this;have af:Hid (P (V++vSsA w0 l a) wr):=by
     have:=o.out;rwa [List.take_of_length_le (by have:=HN.out;omega)] at this
    clear o;go_wp2_with fail;exact bodyPost_end (results_none rfl _ _ _) rfl ⟨rfl,af.out⟩
theorem vis_subsN {k1:Value} {R:Nat->Prop} {w0:World} {Gd:List Vz->Prop} {P:List Vz->World->Prop} (H:VpN k1 R w0 Gd P):∀ l:List St,∀ x∈l,VisSN k1 R w0 Gd P x.body/\VisSN k1 R w0 Gd P x.els:=by
 intro l;induction l using Sts.ind with
 | h0=>intro x c;cases c
 | h1 k n o e b l a r hb hl hr =>
   intro x c;rcases List.mem_cons.1 c with rfl | c
   · exact ⟨vis_stsN H hb,vis_stsN H hl⟩
   · exact hr x c
theorem p_eachStmtN {k1:Value} {R:Nat->Prop} {w0:World} {Gd:List Vz->Prop} {P:List Vz->World->Prop} (H:VpN k1 R w0 Gd P) (l:List St):VisSN k1 R w0 Gd P l:=vis_stsN H (vis_subsN H l)
theorem p_eachPartN {k1:Value} {R:Nat->Prop} {w0:World} {Gd:List Vz->Prop} {P:List Vz->World->Prop} (H:VpN k1 R w0 Gd P) {x:Pg} (hok:okP x) {a1 a2 a3:Option Addr} {c1 c2 c3:Nat} {w:World} (h1:dcsAt R w0 x.shared a1) (h2:dcsAt R w0 x.locks a2) (h3:thsAt R w0 x.threads a3) (h0:P [] w) (hv0:Gd (vDsA w0 x.shared a1++vDsA w0 x.locks a2++vTsA w0 x.threads a3)) :
 Calls Tryz.prog 59 #[.agg #[.slice a1 x.shared.length c1,.slice a2 x.locks.length c2,.slice a3 x.threads.length c3],.func (.func 60) #[] #[k1]] w fun e w'=>e=.returned (.tuple #[])/\P (vDsA w0 x.shared a1++vDsA w0 x.locks a2++vTsA w0 x.threads a3) w':=by
 obtain ⟨p,A,l⟩:=x;obtain ⟨E,o2,hl,D⟩:=hok;simp only at E o2 hl D h1 h2 h3 hv0 ⊢;obtain ⟨z,y⟩:=Qx w.heap.size;have ab:w0.heap.size<=z:=by rw [y];exact (H.sk h0).1
 obtain ⟨c,o⟩:∃ c:List Vz->World->Prop,c=fun V W=>P V W/\Own W z 26 #[.slice a1 p.length c1,.slice a2 A.length c2,.slice a3 l.length c3]:=⟨_,rfl⟩
 have H':VpN k1 R w0 Gd c:=by
  subst o;refine ⟨fun h hb=>⟨H.keep h.1 hb,h.2.below hb⟩,fun h=>H.sk h.1,H.pre,fun h hv S hz=>(H.step h.1 hv S hz).mono fun e W' k=>⟨k.1,⟨k.2.1,(k.2.2 z ab h.2.lt).trans h.2⟩,k.2.2⟩⟩
 have HQ:Hid (∀ V W,c V W->P V W):=fun V W h=>by rw [o] at h;exact h.1
 have X:Hid (∀ V W,c V W->Own W z 26 #[.slice a1 p.length c1,.slice a2 A.length c2,.slice a3 l.length c3]):=fun V W h=>by rw [o] at h;exact h.2
 have b:Hid (c [] (w.alloc (.cells #[.slice a1 p.length c1,.slice a2 A.length c2,.slice a3 l.length c3] 26))):=by
  rw [Hid,o,y];exact ⟨H.keep h0 ((Below.refl _ w).alloc (Nat.le_refl _) _),Own.new w _ _⟩
 have f:Hid (∀ V W,c V W->W.cell? ⟨z,0,none⟩=some (.slice a1 p.length c1)/\W.cell? ⟨z,1,none⟩=some (.slice a2 A.length c2)/\W.cell? ⟨z,2,none⟩=some (.slice a3 l.length c3)):=fun V W h=>by
  have hO:=X.out V W h;exact ⟨cr hO,cr hO,cr hO⟩
 obtain ⟨V,hV⟩:=Qx (vDsA w0 p a1++vDsA w0 A a2);have I:Hid (∀ W,c [] W->Calls Tryz.prog 119 #[.slice a1 p.length c1,.func (.func 60) #[] #[k1]] W fun e' w'=>e'=.returned (.tuple #[])/\c (vDsA w0 p a1) w'):=fun W hW=>p_eachDeclN H' E (V:=[]) h1 hW (H.pre (H.pre hv0))
 have ac:Hid (∀ W,c (vDsA w0 p a1) W->Calls Tryz.prog 119 #[.slice a2 A.length c2,.func (.func 60) #[] #[k1]] W fun e' w'=>e'=.returned (.tuple #[])/\c V w'):=fun W hW=>by rw [hV];exact p_eachDeclN H' o2 h2 hW (H.pre hv0)
 rw [<- hV];have am:Hid (Gd (V++vTsA w0 l a3)):=by
  rw [hV];exact hv0
 have H:=Hd H';have HO:=Hd D;have E1:=Hd h3;obtain ⟨n,S⟩:=Qx l.length;rw [<- S] at hl ⊢ b f;have HN:=Hd S;obtain ⟨W0,C⟩:=Qx (w.alloc (.cells #[.slice a1 p.length c1,.slice a2 A.length c2,.slice a3 n c3] 26));rw [<- C] at b;have K:=Hd C;have Q:Hid (w.heap.size=z):=y.symm;clear S h1 h2 h3 h0 E o2 D hV C X o ab y H' hv0;generalize p.length=n1 at *;generalize A.length=n2 at *;go_enter Tryz.func59,Tryz.ntmps59;go_upto_region 1 with (fail)
 rw [<- K.out,Q.out];have T:=(f.out _ _ b.out).1;clear K Q;go_wp2_with fail;go_at_call 119;refine (I.out _ b.out).mono ?_;rintro e x1 ⟨rfl,a⟩;have d:=Hd a;clear a b T;have T:=(f.out _ _ d.out).2.1;go_wp2_with fail;go_at_call 119;refine (ac.out _ d.out).mono ?_;rintro e x2 ⟨rfl,a⟩;have b:=Hd a;clear a d T I ac;have T:=(f.out _ _ b.out).2.2;go_wp2_with fail;clear T;go_loopg [17] (n+1) (fun m' u W=>∃ i:Nat,u=.int .i64 (i:Int)/\i<=n/\m'=n-i+1/\c (V++vTsA w0 (l.take i) a3) W)
 case atStart=>exact ⟨0,rfl,Nat.zero_le _,by omega,by rw [List.take_zero,vTsA_nil,List.append_nil];exact b.out⟩
 case round =>
  obtain ⟨i,rfl,hi,hm,a⟩:=hrel;have HM:=Hd hm;have d:=Hd a;clear hm a b;by_cases hin:i<n
  · have il : i < l.length := by have := HN.out; omega
    have g1:l[i]? = some l[i]:=List.getElem?_eq_getElem il;have j:l[i]∈l:=List.getElem_mem il;generalize l[i]=x at g1 j;rcases E1.out with e | ⟨g,q,e,hg,e1⟩
    · cases l with
      | nil=>simp at il
      | cons=>cases e
    obtain rfl:a3=some ⟨g,q,none⟩:=e;have x1:=thsIn_get i x e1 g1;have HV:Hid (vTsA w0 (l.take (i+1)) (some ⟨g,q,none⟩)=vTsA w0 (l.take i) (some ⟨g,q,none⟩)++vT w0 x g (q+i*4)):=vTs_take w0 l i g q x g1;have a0:(i:Int)<(n:Int):=by omega
    have ad:=H.out.sk d.out;have ai:=Hd ad.1;have hok:=HO.out x j;obtain ⟨nm,G,L,ps⟩:=x;obtain ⟨b0,⟨m,N,M,Y⟩,⟨t,B,F,O⟩,b3⟩:=x1;obtain ⟨E,o3,D⟩:=hok;simp only at b0 M Y F O b3 E o3 D;obtain ⟨U,J⟩:=Qx (V++vTsA w0 (l.take i) (some ⟨g,q,none⟩)++[⟨⟨g,q+i*4+3,none⟩,[⟨g,q+i*4,none⟩]⟩]);have s:Gd (U++vDsA w0 G m++vSsA w0 L t):=by
     obtain ⟨r,hr⟩:=vTsA_split w0 l (i+1) (some ⟨g,q,none⟩);have Z:=am.out;rw [hr,<- List.append_assoc] at Z;have Z:=H.out.pre Z;rw [HV.out,vT,kD_of M Y,kS_of F O] at Z;rw [J];simpa only [List.append_assoc,List.cons_append,List.nil_append] using Z
    have HS:Hid (∀ W,Below wr.heap.size wr W->Calls Tryz.prog 60 #[.pointer (some ⟨g,q+i*4+3,none⟩),.slice (some ⟨W.heap.size,0,none⟩) 1 1,k1] (W.alloc (.cells #[.pointer (some ⟨g,q+i*4,none⟩)] 129)) fun e' w'=>e'=.returned (.tuple #[])/\c U w'):=fun W hW=>by
     rw [J];exact (H.out.step (v:=⟨⟨g,q+i*4+3,none⟩,[⟨g,q+i*4,none⟩]⟩) (H.out.keep d.out (hW.alloc hW.size _)) (vok_th hg b0 F b3) (nms_one (Nat.le_trans ai.out hW.size)) (by rw [<- J];exact H.out.pre (H.out.pre s))).mono fun _ _ h=>⟨h.1,h.2.1⟩
    have H3:Hid (∀ W,c U W->W.cell? ⟨g,q+i*4+1,none⟩=some (.slice m G.length N)/\Calls Tryz.prog 119 #[.slice m G.length N,.func (.func 60) #[] #[k1]] W fun e' w'=>e'=.returned (.tuple #[])/\c (U++vDsA w0 G m) w'):=fun W hW=>⟨(H.out.sk hW).sl M,p_eachDeclN H.out E Y hW (H.out.pre s)⟩
    have H4:Hid (∀ W,c (U++vDsA w0 G m) W->W.cell? ⟨g,q+i*4+2,none⟩=some (.slice t L.length B)/\Calls Tryz.prog 120 #[.slice t L.length B,.func (.func 60) #[] #[k1]] W fun e' w'=>e'=.returned (.tuple #[])/\c (V++vTsA w0 (l.take (i+1)) (some ⟨g,q,none⟩)) w'):=fun W hW=>⟨(H.out.sk hW).sl F,by
     have:=p_eachStmtN H.out L D o3 t B _ W O hW s;rw [HV.out,vT,kD_of M Y,kS_of F O,<- List.append_assoc];rw [J] at this
     simpa only [List.append_assoc,List.cons_append,List.nil_append] using this⟩
    have c2:=(f.out _ _ d.out).2.2;clear g1 e1 il b0 M F b3 j ad HV hg d Y O E o3 D J s;generalize G.length=n3 at *;generalize L.length=n4 at *;go_wp2_with fail;go_region_with (go_at_call 60;refine (HS.out _ (below_drewN (Below.refl _ _) _)).mono ?_;rintro e x3 ⟨rfl,a⟩);have d:=Hd a;have b3:=(H3.out _ a).1;clear a HS c2;go_wp2_with fail;go_at_call 119;refine ((H3.out _ d.out).2).mono ?_;rintro e x4 ⟨rfl,a⟩;have d:=Hd a;have b4:=(H4.out _ a).1;clear a H3 b3;go_wp2_with fail;go_at_call 120;refine ((H4.out _ d.out).2).mono ?_;rintro e x5 ⟨rfl,a⟩;have d:=Hd a;clear a H4 b4;go_wp2_with fail;go_roundg (n-(i+1)+1)
    case measure=>have:=HM.out;omega
    case rel=>exact ⟨i+1,rfl,by omega,by omega,d.out⟩
  · have : i = n := by omega
    subst this;have ar:Hid (P (V++vTsA w0 l a3) wr):=by
     have:=HQ.out _ _ d.out;rwa [List.take_of_length_le (by have:=HN.out;omega)] at this
    clear d;go_wp2_with fail;exact bodyPost_end (results_none rfl _ _ _) rfl ⟨rfl,ar.out⟩
def NL (L:List ByteArray) (l:List (List UInt8)):Prop:=l.Pairwise (· < ·)/\∀ s,s∈l↔s≠[]/\(⟨s.toArray⟩:ByteArray)∈L
theorem bytes_back (b:ByteArray):(⟨b.data.toList.toArray⟩:ByteArray)=b:=by cases b;simp
theorem nl_mem {L:List ByteArray} {l:List (List UInt8)} (hl:NL L l) {f:ByteArray} (hf:f≠⟨#[]⟩):f.data.toList∈l↔f∈L:=by
 rw [hl.2,bytes_back];refine ⟨fun h=>h.2,fun h=>⟨fun e=>hf (by rw [<- bytes_back f,e]),h⟩⟩
open Go.RowKit Go.Maps
def nmC (w0:World) (V:List Vz) (s:ByteArray):Prop:=∃ a∈adr V,w0.cell? a=some (.string s)
theorem nmC_app {w0:World} {V U:List Vz} {s:ByteArray} : nmC w0 (V++U) s↔nmC w0 V s\/nmC w0 U s:=by
 simp only [nmC,adr_app,List.mem_append];exact ⟨fun ⟨a,h,e⟩=>h.elim (fun h=>.inl ⟨a,h,e⟩) (fun h=>.inr ⟨a,h,e⟩),fun h=>h.elim (fun ⟨a,h,e⟩=>⟨a,.inl h,e⟩) (fun ⟨a,h,e⟩=>⟨a,.inr h,e⟩)⟩
theorem nmC_nil {w0:World} {s:ByteArray} : ¬ nmC w0 [] s:=fun ⟨a,h,_⟩=>by cases h
theorem nmC_cons {w0:World} {v:Vz} {U:List Vz} {s:ByteArray} : nmC w0 (v::U) s↔nmC w0 [v] s\/nmC w0 U s:=nmC_app (V:=[v])
theorem nmC_one {w0:World} {p a:Addr} {s u:ByteArray} (h:w0.cell? a=some (.string s)):nmC w0 [⟨p,[a]⟩] u↔u=s:=by
 refine ⟨fun ⟨b,hb,e⟩=>?_,fun e=>⟨a,by simp [adr],by rw [e];exact h⟩⟩
 obtain rfl:b=a:=by simpa [adr] using hb
 rw [h] at e;injection Option.some.inj e with e;exact e.symm
theorem nmC_two {w0:World} {p a b:Addr} {s t u:ByteArray} (h:w0.cell? a=some (.string s)) (h2:w0.cell? b=some (.string t)):nmC w0 [⟨p,[a,b]⟩] u↔u=s\/u=t:=by
 refine ⟨fun ⟨c,hc,e⟩=>?_,fun e=>e.elim (fun e=>⟨a,by simp [adr],by rw [e];exact h⟩) (fun e=>⟨b,by simp [adr],by rw [e];exact h2⟩)⟩
 rcases (by simpa [adr] using hc:c=a\/c=b) with rfl | rfl
 · rw [h] at e;injection Option.some.inj e with e;exact .inl e.symm
 · rw [h2] at e;injection Option.some.inj e with e;exact .inr e.symm
theorem nmC_zero {w0:World} {p:Addr} {u:ByteArray} : ¬ nmC w0 [⟨p,[]⟩] u:=fun ⟨a,h,_⟩=>by simp [adr] at h
theorem nmC_exs {R:Nat->Prop} {w0:World} {s:ByteArray} : ∀ (l:List Ex) (g o:Nat),exsIn R w0 l g o->(nmC w0 (vEs w0 l g o) s↔s∈nmEs l):=by
 intro l;induction l using Exs.ind with
 | h0=>intro g o _;exact ⟨fun h=>absurd h nmC_nil,fun h=>by cases h⟩
 | h1 k op wd nm ks p r ih1 ih2 =>
   intro g o c;obtain ⟨⟨v,x,t,d,⟨a,f,i,b⟩,y⟩,j⟩:=c;simp only [vEs,vE,nmEs,nmE,List.mem_append];rw [kE_of i b,nmC_app,nmC_cons,ih2 g _ j];have n:nmC w0 (vEsA w0 ks a) s↔s∈nmEs ks:=by
    rcases b with b | ⟨m,q,rfl,z,c⟩
    · obtain rfl : ks = [] := by simpa using b
      rw [vEsA_nil];exact ⟨fun h=>absurd h nmC_nil,fun h=>by cases h⟩
    · exact ih1 m q c
   rw [n];by_cases e:k=2
   · rw [if_pos e,if_pos e,nmC_one d];simp
   · rw [if_neg e,if_neg e];exact or_congr (or_congr ⟨fun h=>absurd h nmC_zero,fun h=>by cases h⟩ Iff.rfl) Iff.rfl
theorem nmC_exsA {R:Nat->Prop} {w0:World} {s:ByteArray} {l:List Ex} {a:Option Addr} (h:exsAt R w0 l a):nmC w0 (vEsA w0 l a) s↔s∈nmEs l:=by
 rcases h with c | ⟨d,q,rfl,f,b⟩
 · obtain rfl : l = [] := by simpa using c
   rw [vEsA_nil];exact ⟨fun h=>absurd h nmC_nil,fun h=>by cases h⟩
 · exact nmC_exs l d q b
theorem nmC_sts {R:Nat->Prop} {w0:World} {s:ByteArray} : ∀ (l:List St) (g o:Nat),stsIn R w0 l g o->(nmC w0 (vSs w0 l g o) s↔s∈nmSs l):=by
 intro l;induction l using Sts.ind with
 | h0=>intro g o _;exact ⟨fun h=>absurd h nmC_nil,fun h=>by cases h⟩
 | h1 k nm ot es bo el p r ih1 ih2 ih3 =>
   intro g o d;obtain ⟨⟨G,y,x,⟨C,H,n,f⟩,⟨B,D,t,c⟩,⟨E,I,A,i⟩,F⟩,v⟩:=d;simp only [vSs,vS,nmSs,nmS];have m:∀ {b:List St} {a:Option Addr} (j:∀ (g o:Nat),stsIn R w0 b g o->(nmC w0 (vSs w0 b g o) s↔s∈nmSs b)) (c:stsAt R w0 b a),nmC w0 (vSsA w0 b a) s↔s∈nmSs b:=by
    intro b a j c;rcases c with c | ⟨z,q,rfl,J,d⟩
    · obtain rfl : b = [] := by simpa using c
      rw [vSsA_nil];exact ⟨fun h=>absurd h nmC_nil,fun h=>by cases h⟩
    · exact j z q d
   rw [kE_of n f,kS_of t c,kS_of A i,nmC_app,nmC_cons,nmC_app,nmC_app,nmC_two y x,nmC_exsA f,m ih1 c,m ih2 i,ih3 g _ v];simp only [List.mem_append,List.mem_cons];exact or_congr or_assoc Iff.rfl
theorem nmC_stsA {R:Nat->Prop} {w0:World} {s:ByteArray} {l:List St} {a:Option Addr} (h:stsAt R w0 l a):nmC w0 (vSsA w0 l a) s↔s∈nmSs l:=by
 rcases h with c | ⟨d,q,rfl,f,b⟩
 · obtain rfl : l = [] := by simpa using c
   rw [vSsA_nil];exact ⟨fun h=>absurd h nmC_nil,fun h=>by cases h⟩
 · exact nmC_sts l d q b
theorem nmC_dcs {w0:World} {s:ByteArray} : ∀ (l:List Dc) (g o:Nat),dcsIn w0 l g o->(nmC w0 (vDs w0 l g o) s↔s∈nmDs l)
 | [],_,_,_=>⟨fun h=>absurd h nmC_nil,fun h=>by cases h⟩
 | ⟨nm, wd, p⟩ :: r, g, o, ⟨⟨c0, c1, c2⟩, hr⟩ => by
   simp only [vDs,vD,nmDs,List.map_cons,List.mem_cons]
   rw [nmC_app,nmC_one c0,nmC_dcs r g _ hr];rfl
theorem nmC_dcsA {R:Nat->Prop} {w0:World} {s:ByteArray} {l:List Dc} {a:Option Addr} (h:dcsAt R w0 l a):nmC w0 (vDsA w0 l a) s↔s∈nmDs l:=by
 rcases h with c | ⟨d,q,rfl,f,b⟩
 · obtain rfl : l = [] := by simpa using c
   rw [vDsA_nil];exact ⟨fun h=>absurd h nmC_nil,fun h=>by cases h⟩
 · exact nmC_dcs l d q b
theorem nmC_ths {R:Nat->Prop} {w0:World} {s:ByteArray} : ∀ (l:List Th) (g o:Nat),thsIn R w0 l g o->(nmC w0 (vTs w0 l g o) s↔s∈nmTs l)
 | [],_,_,_=>⟨fun h=>absurd h nmC_nil,fun h=>by cases h⟩
 | ⟨nm, lo, bo, p⟩ :: r, g, o, ⟨⟨c0, ⟨a1, p1, c1, h1⟩, ⟨a2, p2, c2, h2⟩, c3⟩, hr⟩ => by
   simp only [vTs,vT,nmTs,nmT,List.flatMap_cons,List.mem_append,List.mem_cons]
   rw [kD_of c1 h1,kS_of c2 h2,nmC_app,nmC_cons,nmC_app,nmC_one c0,nmC_dcsA h1,nmC_stsA h2,nmC_ths r g _ hr];rfl
theorem nmC_thsA {R:Nat->Prop} {w0:World} {s:ByteArray} {l:List Th} {a:Option Addr} (h:thsAt R w0 l a):nmC w0 (vTsA w0 l a) s↔s∈nmTs l:=by
 rcases h with c | ⟨d,q,rfl,f,b⟩
 · obtain rfl : l = [] := by simpa using c
   rw [vTsA_nil];exact ⟨fun h=>absurd h nmC_nil,fun h=>by cases h⟩
 · exact nmC_ths l d q b
abbrev MO (w:World) (m n:Nat) (D:DataW Unit):Prop:=w.ownsMap Tryz.prog 9 (plainElem Tryz.prog 3) m n D
structure Nk (fb m:Nat) (w0:World) (V:List Vz) (W:World):Prop where
 mp:∃ es c,w0.heap[m]? = some (.map es c)
 fd:w0.cell? ⟨fb,0,none⟩=some (.map (some m))
 grown:w0.grownBy W (some m)
 map:∃ (n:Nat) (D:DataW Unit),n<=2*V.length/\MO W m n D/\∀ s,has D (.string s)=true↔s≠[]/\nmC w0 V ⟨s.toArray⟩
section
variable {fb m:Nat} {w0 W W':World} {V:List Vz}
theorem nk_lt (h:Nk fb m w0 V W):m<w0.heap.size:=by
 obtain ⟨a,c,h⟩:=h.mp;exact (Array.getElem?_eq_some_iff.1 h).1
theorem nk_cell (h:Nk fb m w0 V W) {a:Addr} {v:Value} (ha:w0.cell? a=some v):W.cell? a=some v:=by
 have d:a.block≠m:=fun e=>by
  obtain ⟨g,c,h⟩:=h.mp;obtain ⟨b,o,f⟩:=a;simp only at e;subst e;simp [World.cell?,h] at ha
 rw [World.cell?_of_block (h.grown.block a.block (cell_lt ha) fun e=>d (Option.some.inj e))];exact ha
theorem nk_nil (mp:∃ es c,w0.heap[m]? = some (.map es c)) (fd:w0.cell? ⟨fb,0,none⟩=some (.map (some m))) (h:MO w0 m 0 (.map [])):Nk fb m w0 [] w0 :=
 ⟨mp,fd,⟨rfl,rfl,rfl,Nat.le_refl _,fun _ _ _=>rfl⟩,0,_,Nat.zero_le _,h,fun s=>⟨fun h=>(by simp [has] at h),fun h=>absurd h.2 nmC_nil⟩⟩
theorem mo_same {w w':World} {m n:Nat} {D:DataW Unit} (h:MO w m n D) (e:w'.heap[m]? = w.heap[m]?):MO w' m n D:=by
 obtain ⟨a,c,b,r⟩:=h;exact ⟨a,c,e.trans b,r⟩
theorem nk_keep (h:Nk fb m w0 V W) (hb:Below W.heap.size W W'):Nk fb m w0 V W':=by
 have d:=h.grown.size;have f:=nk_lt h;obtain ⟨n,D,c,b,a⟩:=h.map;refine ⟨h.mp,h.fd,⟨hb.os.trans h.grown.os,hb.tape.trans h.grown.tape,hb.output.trans h.grown.output,Nat.le_trans d hb.size,fun k a hne=>?_⟩,n,D,c,mo_same b (hb.block m (by omega)),a⟩
 rw [hb.block k (by omega)];exact h.grown.block k a hne
theorem nk_sk (h:Nk fb m w0 V W):Sk w0 W:=⟨h.grown.size,fun g o v hv _=>nk_cell h hv⟩
end
theorem has_name {D:DataW Unit} (hD:IsMap D) {s:List UInt8} (hs:s.length<=maxLen) (d:DataW Unit) (u:List UInt8):has (D.put (.string s) d) (.string u)=true↔u=s\/has D (.string u)=true:=by
 by_cases e:u=s
 · subst e;simp [has_put_same hD (show WideAt.IsKeyLit (Lit.string u) from by trivial) d]
 · rw [has_put_other (fun h=>e (by injection h)) d];simp [e]
end Go.Proofs.YtbgfkdiihnidaaaGreatDoor

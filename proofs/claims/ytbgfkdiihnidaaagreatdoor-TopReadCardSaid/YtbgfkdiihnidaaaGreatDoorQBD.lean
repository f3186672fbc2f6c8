import Derived.Test.YtbgfkdiihnidaaaGreatDoorQBB
import Derived.Test.YtbgfkdiihnidaaaGreatDoorQAD
import Derived.Test.YtbgfkdiihnidaaaGreatDoorQAA
import Derived.Test.YtbgfkdiihnidaaaGreatDoorQAO
import Derived.Deep.RegionWith
import Derived.Deep.CutBlock
import Derived.Test.YtbgfkdiihnidaaaGreatDoorQAW
import Derived.Test.YtbgfkdiihnidaaaGreatDoorQBC
import Derived.Deep.RegionHeld3
import Derived.Test.YtbgfkdiihnidaaaGreatDoorQAY
set_option maxRecDepth 100000
set_option maxHeartbeats 20000000
namespace Go.Proofs.YtbgfkdiihnidaaaGreatDoor
open Go.RowKit
set_option linter.unusedVariables false
structure VpR (k1 k2:Value) (R:Nat->Prop) (w0:World) (Gd:List Vz->Prop) (P:List Vz->World->Prop):Prop where
 keep:∀ {V:List Vz} {W W':World},P V W->Below W.heap.size W W'->P V W'
 sk:∀ {V:List Vz} {W:World},P V W->Sk w0 W
 pre:∀ {A B:List Vz},Gd (A++B)->Gd A
 step:∀ {V:List Vz} {v:Vz} {W:World} {s:Value},P V W->Vok R w0 v->NmS w0 W v.nm s->Gd (V++[v])->Calls Tryz.prog 65 #[.pointer (some v.pl),s,k1,k2] W fun e W'=>e=.returned (.tuple #[])/\P (V++[v]) W'/\∀ b,w0.heap.size<=b->b<W.heap.size->W'.heap[b]? = W.heap[b]?
theorem p_eachDeclR {k1 k2:Value} {R:Nat->Prop} {w0:World} {Gd:List Vz->Prop} {P:List Vz->World->Prop} (H:VpR k1 k2 R w0 Gd P) {l:List Dc} (hl:l.length<=9223372036854775807) {a:Option Addr} {c:Nat} {V:List Vz} {w:World} (h1:dcsAt R w0 l a) (h2:P V w) (hv0:Gd (V++vDsA w0 l a)) :
 Calls Tryz.prog 119 #[.slice a l.length c,.func (.func 65) #[] #[k1,k2]] w fun e w'=>e=.returned (.tuple #[])/\P (V++vDsA w0 l a) w':=by
 have H:=Hd H;have O:=Hd h1;have o:=Hd h2;have t:=Hd hv0;obtain ⟨n,y⟩:=Qx l.length;rw [<- y] at hl ⊢;have G:=Hd y;clear h1 h2 y hv0;go_enter Tryz.func119,Tryz.ntmps119;go_wp2_with fail;go_loopg [7] (n+1) (fun m' u W=>∃ i:Nat,u=.int .i64 (i:Int)/\i<=n/\m'=n-i+1/\P (V++vDsA w0 (l.take i) a) W)
 case atStart=>exact ⟨0,rfl,Nat.zero_le _,by omega,by rw [List.take_zero,vDsA_nil,List.append_nil];exact o.out⟩
 case round =>
  obtain ⟨i,rfl,T,E,j⟩:=hrel;have M:=Hd E;have d:=Hd j;clear E j o;by_cases hin:i<n
  · have p : i < l.length := by have := G.out; omega
    have s:l[i]? = some l[i]:=List.getElem?_eq_getElem p;have b:l[i]∈l:=List.getElem_mem p;generalize l[i]=x at s b;rcases O.out with e | ⟨g,q,e,L,D⟩
    · cases l with
      | nil=>simp at p
      | cons=>cases e
    obtain rfl:a=some ⟨g,q,none⟩:=e;have Q:=dcsIn_get i x D s;have B:Hid (vDsA w0 (l.take (i+1)) (some ⟨g,q,none⟩)=vDsA w0 (l.take i) (some ⟨g,q,none⟩)++vD w0 x g (q+i*3)):=vDs_take w0 l i g q x s;have f:Hid (Gd (V++vDsA w0 (l.take (i+1)) (some ⟨g,q,none⟩))):=by
     obtain ⟨r,N⟩:=vDsA_split w0 l (i+1) (some ⟨g,q,none⟩);have k:=t.out;rw [N,<- List.append_assoc] at k;exact H.out.pre k
    have I:(i:Int)<(n:Int):=by omega
    have m:=H.out.sk d.out;have A:=Hd m.1;obtain ⟨J,F,C⟩:=Q;have K:Hid (∀ W,Below wr.heap.size wr W->Calls Tryz.prog 65 #[.pointer (some ⟨g,q+i*3+2,none⟩),.slice (some ⟨W.heap.size,0,none⟩) 1 1,k1,k2] (W.alloc (.cells #[.pointer (some ⟨g,q+i*3,none⟩)] 129)) fun e' w'=>e'=.returned (.tuple #[])/\P (V++vDsA w0 (l.take (i+1)) (some ⟨g,q,none⟩)) w'):=fun W hW=>by
     rw [B.out,<- List.append_assoc];exact (H.out.step (v:=⟨⟨g,q+i*3+2,none⟩,[⟨g,q+i*3,none⟩]⟩) (H.out.keep d.out (hW.alloc hW.size _)) (vok_dc L J F C) (nms_one (Nat.le_trans A.out hW.size)) (by have k:=f.out;rw [B.out,<- List.append_assoc] at k;exact k)).mono fun _ _ h=>⟨h.1,h.2.1⟩
    clear s D p J F C b m B L d f;go_wp2_with fail;go_region_with (go_at_call 65;refine (K.out _ (below_drewN (Below.refl _ _) _)).mono ?_;rintro e S ⟨rfl,j⟩);have d:=Hd j;clear j K;go_wp2_with fail;go_roundg (n-(i+1)+1)
    case measure=>have:=M.out;omega
    case rel=>exact ⟨i+1,rfl,by omega,by omega,d.out⟩
  · have : i = n := by omega
    subst this;have z:Hid (P (V++vDsA w0 l a) wr):=by
     have:=d.out;rwa [List.take_of_length_le (by have:=G.out;omega)] at this
    clear d;go_wp2_with fail;exact bodyPost_end (results_none rfl _ _ _) rfl ⟨rfl,z.out⟩
def VisER (k1 k2 : Value) (R : Nat -> Prop) (w0 : World) (Gd : List Vz -> Prop) (P : List Vz -> World -> Prop) (l : List Ex) : Prop := okEs l -> l.length <= 9223372036854775807 -> ∀ (a : Option Addr) (c : Nat) (V : List Vz) (w : World), exsAt R w0 l a -> P V w -> Gd (V ++ vEsA w0 l a) ->
    Calls Tryz.prog 159 #[.slice a l.length c,.func (.func 65) #[] #[k1,k2]] w fun e w'=>e=.returned (.tuple #[])/\P (V++vEsA w0 l a) w'
theorem vis_exsR {k1 k2:Value} {R:Nat->Prop} {w0:World} {Gd:List Vz->Prop} {P:List Vz->World->Prop} (H:VpR k1 k2 R w0 Gd P) {l:List Ex} (HI:∀ x∈l,VisER k1 k2 R w0 Gd P x.kids):VisER k1 k2 R w0 Gd P l:=by
 intro HO hl a c V w h1 h2 E;have HI:=Hd HI;have HO:=Hd HO;have H:=Hd H;have E1:=Hd h1;have K:=Hd h2;have X:=Hd E;obtain ⟨n,Y⟩:=Qx l.length;rw [<- Y] at hl ⊢;have HN:=Hd Y;clear h1 h2 Y E;go_enter Tryz.func159,Tryz.ntmps159;go_wp2_with fail;go_loopg [8] (n+1) (fun m' u W=>∃ i:Nat,u=.int .i64 (i:Int)/\i<=n/\m'=n-i+1/\P (V++vEsA w0 (l.take i) a) W)
 case atStart=>exact ⟨0,rfl,Nat.zero_le _,by omega,by rw [List.take_zero,vEsA_nil,List.append_nil];exact K.out⟩
 case round =>
  obtain ⟨i,rfl,hi,hm,d⟩:=hrel;have HM:=Hd hm;have j:=Hd d;clear hm d K;by_cases hin:i<n
  · have F : i < l.length := by have := HN.out; omega
    have G:l[i]? = some l[i]:=List.getElem?_eq_getElem F;have b:l[i]∈l:=List.getElem_mem F;generalize l[i]=x at G b;rcases E1.out with e | ⟨g,q,e,U,e1⟩
    · cases l with
      | nil=>simp at F
      | cons=>cases e
    obtain rfl:a=some ⟨g,q,none⟩:=e;have x1:=exsIn_get i x e1 G;have C:Hid (vEsA w0 (l.take (i+1)) (some ⟨g,q,none⟩)=vEsA w0 (l.take i) (some ⟨g,q,none⟩)++vE w0 x g (q+i*6)):=vEs_take w0 l i g q x G;have z:Hid (Gd (V++vEsA w0 (l.take (i+1)) (some ⟨g,q,none⟩))):=by
     obtain ⟨r,hr⟩:=vEsA_split w0 l (i+1) (some ⟨g,q,none⟩);have A:=X.out;rw [hr,<- List.append_assoc] at A;exact H.out.pre A
    have an:(i:Int)<(n:Int):=by omega
    have s:=H.out.sk j.out;have ad:=Hd s.1;have ac:=okEs_mem HO.out x b;have O:=Hd (HI.out x b);obtain ⟨k,o,wd,nm,p,ps⟩:=x;obtain ⟨T,a1,a2,M,⟨m,B,t,y⟩,Q⟩:=x1;obtain ⟨N,S⟩:=ac;by_cases hk:k=2
    · have f : Gd (V ++ vEsA w0 (l.take i) (some ⟨g, q, none⟩) ++ [⟨⟨g, q + i * 6 + 5, none⟩, [⟨g, q + i * 6 + 3, none⟩]⟩] ++ vEsA w0 p m) := by
       have A:=z.out;rw [C.out,vE,if_pos hk,kE_of t y] at A;simpa only [List.append_assoc,List.cons_append,List.nil_append] using A
      have L:Hid (∀ W,Below wr.heap.size wr W->Calls Tryz.prog 65 #[.pointer (some ⟨g,q+i*6+5,none⟩),.slice (some ⟨W.heap.size,0,none⟩) 1 1,k1,k2] (W.alloc (.cells #[.pointer (some ⟨g,q+i*6+3,none⟩)] 129)) fun e' w'=>e'=.returned (.tuple #[])/\P (V++vEsA w0 (l.take i) (some ⟨g,q,none⟩)++[⟨⟨g,q+i*6+5,none⟩,[⟨g,q+i*6+3,none⟩]⟩]) w'):=fun W hW=>by
       have D:=vok_ex (k:=k) U M t Q;rw [if_pos hk] at D;exact (H.out.step (v:=⟨⟨g,q+i*6+5,none⟩,[⟨g,q+i*6+3,none⟩]⟩) (H.out.keep j.out (hW.alloc hW.size _)) D (nms_one (Nat.le_trans ad.out hW.size)) (H.out.pre f)).mono fun _ _ h=>⟨h.1,h.2.1⟩
      have J:Hid (∀ W,P (V++vEsA w0 (l.take i) (some ⟨g,q,none⟩)++[⟨⟨g,q+i*6+5,none⟩,[⟨g,q+i*6+3,none⟩]⟩]) W->Calls Tryz.prog 159 #[.slice m p.length B,.func (.func 65) #[] #[k1,k2]] W fun e' w'=>e'=.returned (.tuple #[])/\P (V++vEsA w0 (l.take (i+1)) (some ⟨g,q,none⟩)) w'):=fun W hW=>by
       have this:Calls Tryz.prog 159 #[.slice m p.length B,.func (.func 65) #[] #[k1,k2]] W fun e' w'=>e'=.returned (.tuple #[])/\P (V++vEsA w0 (l.take i) (some ⟨g,q,none⟩)++[⟨⟨g,q+i*6+5,none⟩,[⟨g,q+i*6+3,none⟩]⟩]++vEsA w0 p m) w':=O.out S N m B _ W y hW f
       rw [C.out,vE,if_pos hk,kE_of t y,<- List.append_assoc];simpa only [List.append_assoc,List.cons_append,List.nil_append] using this
      have I:Hid (∀ W,P (V++vEsA w0 (l.take i) (some ⟨g,q,none⟩)++[⟨⟨g,q+i*6+5,none⟩,[⟨g,q+i*6+3,none⟩]⟩]) W->W.cell? ⟨g,q+i*6+4,none⟩=some (.slice m p.length B)):=fun W hW=>(H.out.sk hW).sl t
      have Z:wr.cell? ⟨g,q+i*6,none⟩=some (.int .u8 2):=by rw [<- hk];exact s.u8 T
      clear G e1 F T a1 a2 M t Q b s C U O y N S f z hk;generalize p.length=nk at *;go_wp2_with fail;go_region_with (go_at_call 65;refine (L.out _ (below_drewN (Below.refl _ _) _)).mono ?_;rintro e w3 ⟨rfl,d⟩);have j:=Hd d;have b4:=I.out _ d;clear d L Z;go_wp2_with fail;go_at_call 159;refine (J.out _ j.out).mono ?_;rintro e y ⟨rfl,d⟩;have j:=Hd d;clear d J b4 I;go_wp2_with fail;go_roundg (n-(i+1)+1)
      case measure=>have:=HM.out;omega
      case rel=>exact ⟨i+1,rfl,by omega,by omega,j.out⟩
    · have f : Gd (V ++ vEsA w0 (l.take i) (some ⟨g, q, none⟩) ++ [⟨⟨g, q + i * 6 + 5, none⟩, []⟩] ++ vEsA w0 p m) := by
       have A:=z.out;rw [C.out,vE,if_neg hk,kE_of t y] at A;simpa only [List.append_assoc,List.cons_append,List.nil_append] using A
      have L:Hid (∀ W,Below wr.heap.size wr W->Calls Tryz.prog 65 #[.pointer (some ⟨g,q+i*6+5,none⟩),.slice none 0 0,k1,k2] W fun e' w'=>e'=.returned (.tuple #[])/\P (V++vEsA w0 (l.take i) (some ⟨g,q,none⟩)++[⟨⟨g,q+i*6+5,none⟩,[]⟩]) w'):=fun W hW=>by
       have D:=vok_ex (k:=k) U M t Q;rw [if_neg hk] at D;exact (H.out.step (v:=⟨⟨g,q+i*6+5,none⟩,[]⟩) (H.out.keep j.out hW) D nms_none (H.out.pre f)).mono fun _ _ h=>⟨h.1,h.2.1⟩
      have J:Hid (∀ W,P (V++vEsA w0 (l.take i) (some ⟨g,q,none⟩)++[⟨⟨g,q+i*6+5,none⟩,[]⟩]) W->Calls Tryz.prog 159 #[.slice m p.length B,.func (.func 65) #[] #[k1,k2]] W fun e' w'=>e'=.returned (.tuple #[])/\P (V++vEsA w0 (l.take (i+1)) (some ⟨g,q,none⟩)) w'):=fun W hW=>by
       have this:Calls Tryz.prog 159 #[.slice m p.length B,.func (.func 65) #[] #[k1,k2]] W fun e' w'=>e'=.returned (.tuple #[])/\P (V++vEsA w0 (l.take i) (some ⟨g,q,none⟩)++[⟨⟨g,q+i*6+5,none⟩,[]⟩]++vEsA w0 p m) w':=O.out S N m B _ W y hW f
       rw [C.out,vE,if_neg hk,kE_of t y,<- List.append_assoc];simpa only [List.append_assoc,List.cons_append,List.nil_append] using this
      have I:Hid (∀ W,P (V++vEsA w0 (l.take i) (some ⟨g,q,none⟩)++[⟨⟨g,q+i*6+5,none⟩,[]⟩]) W->W.cell? ⟨g,q+i*6+4,none⟩=some (.slice m p.length B)):=fun W hW=>(H.out.sk hW).sl t
      have Z:wr.cell? ⟨g,q+i*6,none⟩=some (.int .u8 k):=s.u8 T;clear G e1 F T a1 a2 M t Q b s C U O y N S f z;generalize p.length=nk at *;go_wp2_with fail;go_at_call 65;refine (L.out _ (Below.refl _ _)).mono ?_;rintro e w3 ⟨rfl,d⟩;have j:=Hd d;have b4:=I.out _ d;clear d L Z;go_wp2_with fail;go_at_call 159;refine (J.out _ j.out).mono ?_;rintro e y ⟨rfl,d⟩;have j:=Hd d;clear d J b4 I;go_wp2_with fail;go_roundg (n-(i+1)+1)
      case measure=>have:=HM.out;omega
      case rel=>exact ⟨i+1,rfl,by omega,by omega,j.out⟩
  · have : i = n := by omega
    subst this;have ab:Hid (P (V++vEsA w0 l a) wr):=by
     have:=j.out;rwa [List.take_of_length_le (by have:=HN.out;omega)] at this
    clear j;go_wp2_with fail;exact bodyPost_end (results_none rfl _ _ _) rfl ⟨rfl,ab.out⟩
theorem vis_kidsR {k1 k2:Value} {R:Nat->Prop} {w0:World} {Gd:List Vz->Prop} {P:List Vz->World->Prop} (H:VpR k1 k2 R w0 Gd P):∀ e:Ex,VisER k1 k2 R w0 Gd P e.kids:=by
 intro e;induction e using Ex.ind with
 | h k o w n ks a h=>exact vis_exsR H h
theorem p_eachExprR {k1 k2:Value} {R:Nat->Prop} {w0:World} {Gd:List Vz->Prop} {P:List Vz->World->Prop} (H:VpR k1 k2 R w0 Gd P) (l:List Ex):VisER k1 k2 R w0 Gd P l:=vis_exsR H fun x _=>vis_kidsR H x
def VisSR (k1 k2 : Value) (R : Nat -> Prop) (w0 : World) (Gd : List Vz -> Prop) (P : List Vz -> World -> Prop) (l : List St) : Prop := okSs l -> l.length <= 9223372036854775807 -> ∀ (a : Option Addr) (c : Nat) (V : List Vz) (w : World), stsAt R w0 l a -> P V w -> Gd (V ++ vSsA w0 l a) ->
    Calls Tryz.prog 120 #[.slice a l.length c,.func (.func 65) #[] #[k1,k2]] w fun e w'=>e=.returned (.tuple #[])/\P (V++vSsA w0 l a) w'
theorem vis_stsR {k1 k2:Value} {R:Nat->Prop} {w0:World} {Gd:List Vz->Prop} {P:List Vz->World->Prop} (H:VpR k1 k2 R w0 Gd P) {l:List St} (HI:∀ x∈l,VisSR k1 k2 R w0 Gd P x.body/\VisSR k1 k2 R w0 Gd P x.els):VisSR k1 k2 R w0 Gd P l:=by
 intro HO hl a c V w h1 h2 C;have HI:=Hd HI;have HO:=Hd HO;have H:=Hd H;have E1:=Hd h1;have J:=Hd h2;have ae:=Hd C;obtain ⟨n,Y⟩:=Qx l.length;rw [<- Y] at hl ⊢;have HN:=Hd Y;clear h1 h2 Y C;go_enter Tryz.func120,Tryz.ntmps120;go_wp2_with fail;go_loopg [8] (n+1) (fun m' u W=>∃ i:Nat,u=.int .i64 (i:Int)/\i<=n/\m'=n-i+1/\P (V++vSsA w0 (l.take i) a) W)
 case atStart=>exact ⟨0,rfl,Nat.zero_le _,by omega,by rw [List.take_zero,vSsA_nil,List.append_nil];exact J.out⟩
 case round =>
  obtain ⟨i,rfl,hi,hm,d⟩:=hrel;have HM:=Hd hm;have o:=Hd d;clear hm d J;by_cases hin:i<n
  · have K : i < l.length := by have := HN.out; omega
    have N:l[i]? = some l[i]:=List.getElem?_eq_getElem K;have j:l[i]∈l:=List.getElem_mem K;generalize l[i]=x at N j;rcases E1.out with e | ⟨g,q,e,hg,e1⟩
    · cases l with
      | nil=>simp at K
      | cons=>cases e
    obtain rfl:a=some ⟨g,q,none⟩:=e;have x1:=stsIn_get i x e1 N;have HV:Hid (vSsA w0 (l.take (i+1)) (some ⟨g,q,none⟩)=vSsA w0 (l.take i) (some ⟨g,q,none⟩)++vS w0 x g (q+i*7)):=vSs_take w0 l i g q x N;have F:Hid (Gd (V++vSsA w0 (l.take (i+1)) (some ⟨g,q,none⟩))):=by
     obtain ⟨r,hr⟩:=vSsA_split w0 l (i+1) (some ⟨g,q,none⟩);have G:=ae.out;rw [hr,<- List.append_assoc] at G;exact H.out.pre G
    have ay:(i:Int)<(n:Int):=by omega
    have I:=H.out.sk o.out;have aa:=Hd I.1;have X:=okSs_mem HO.out x j;have Z:=Hd (HI.out x j);obtain ⟨k,nm,ot,s,z,B,ps⟩:=x;obtain ⟨a0,a1,a2,⟨b,y,M,S⟩,⟨f,A,Q,O⟩,⟨m,t,D,L⟩,a6⟩:=x1;obtain ⟨⟨o1,o2⟩,⟨o3,o4⟩,o5,o6⟩:=X;obtain ⟨U,E⟩:=Qx (V++vSsA w0 (l.take i) (some ⟨g,q,none⟩)++[⟨⟨g,q+i*7+6,none⟩,[⟨g,q+i*7+1,none⟩,⟨g,q+i*7+2,none⟩]⟩]);have p:Gd (U++vEsA w0 s b++vSsA w0 z f++vSsA w0 B m):=by
     have G:=F.out;rw [HV.out,vS,kE_of M S,kS_of Q O,kS_of D L] at G;rw [E];simpa only [List.append_assoc,List.cons_append,List.nil_append] using G
    have HS:Hid (∀ W,Below wr.heap.size wr W->Calls Tryz.prog 65 #[.pointer (some ⟨g,q+i*7+6,none⟩),.slice (some ⟨W.heap.size,0,none⟩) 2 2,k1,k2] (W.alloc (.cells #[.pointer (some ⟨g,q+i*7+1,none⟩),.pointer (some ⟨g,q+i*7+2,none⟩)] 129)) fun e' w'=>e'=.returned (.tuple #[])/\P U w'):=fun W hW=>by
     rw [E];exact (H.out.step (v:=⟨⟨g,q+i*7+6,none⟩,[⟨g,q+i*7+1,none⟩,⟨g,q+i*7+2,none⟩]⟩) (H.out.keep o.out (hW.alloc hW.size _)) (vok_st hg a1 a2 D a6) (nms_two (Nat.le_trans aa.out hW.size)) (by rw [<- E];exact H.out.pre (H.out.pre (H.out.pre p)))).mono fun _ _ h=>⟨h.1,h.2.1⟩
    have H3:Hid (∀ W,P U W->W.cell? ⟨g,q+i*7+3,none⟩=some (.slice b s.length y)/\Calls Tryz.prog 159 #[.slice b s.length y,.func (.func 65) #[] #[k1,k2]] W fun e' w'=>e'=.returned (.tuple #[])/\P (U++vEsA w0 s b) w'):=fun W hW=>⟨(H.out.sk hW).sl M,p_eachExprR H.out s o2 o1 b y _ W S hW (H.out.pre (H.out.pre p))⟩
    have H4:Hid (∀ W,P (U++vEsA w0 s b) W->W.cell? ⟨g,q+i*7+4,none⟩=some (.slice f z.length A)/\Calls Tryz.prog 120 #[.slice f z.length A,.func (.func 65) #[] #[k1,k2]] W fun e' w'=>e'=.returned (.tuple #[])/\P (U++vEsA w0 s b++vSsA w0 z f) w'):=fun W hW=>⟨(H.out.sk hW).sl Q,Z.out.1 o4 o3 f A _ W O hW (H.out.pre p)⟩
    have T:Hid (∀ W,P (U++vEsA w0 s b++vSsA w0 z f) W->W.cell? ⟨g,q+i*7+5,none⟩=some (.slice m B.length t)/\Calls Tryz.prog 120 #[.slice m B.length t,.func (.func 65) #[] #[k1,k2]] W fun e' w'=>e'=.returned (.tuple #[])/\P (V++vSsA w0 (l.take (i+1)) (some ⟨g,q,none⟩)) w'):=fun W hW=>⟨(H.out.sk hW).sl D,by
     have this:Calls Tryz.prog 120 #[.slice m B.length t,.func (.func 65) #[] #[k1,k2]] W fun e' w'=>e'=.returned (.tuple #[])/\P (U++vEsA w0 s b++vSsA w0 z f++vSsA w0 B m) w':=Z.out.2 o6 o5 m t _ W L hW p
     rw [HV.out,vS,kE_of M S,kS_of Q O,kS_of D L,<- List.append_assoc];rw [E] at this
     simpa only [List.append_assoc,List.cons_append,List.nil_append] using this⟩
    clear N e1 K a0 a1 a2 M Q D a6 j I HV hg o Z S O L o1 o2 o3 o4 o5 o6 E p F;generalize s.length=n3 at *;generalize z.length=n4 at *;generalize B.length=n5 at *;go_wp2_with fail;go_region_with (go_at_call 65;refine (HS.out _ (below_drewN (Below.refl _ _) _)).mono ?_;rintro e x3 ⟨rfl,d⟩);have o:=Hd d;have b3:=(H3.out _ d).1;clear d HS;go_wp2_with fail;go_at_call 159;refine ((H3.out _ o.out).2).mono ?_;rintro e x4 ⟨rfl,d⟩;have o:=Hd d;have b4:=(H4.out _ d).1;clear d H3 b3;go_wp2_with fail;go_at_call 120;refine ((H4.out _ o.out).2).mono ?_;rintro e x5 ⟨rfl,d⟩;have o:=Hd d;have b5:=(T.out _ d).1;clear d H4 b4;go_wp2_with fail;go_at_call 120;refine ((T.out _ o.out).2).mono ?_;rintro e x6 ⟨rfl,d⟩;have o:=Hd d;clear d T b5;go_wp2_with fail;go_roundg (n-(i+1)+1)
    case measure=>have:=HM.out;omega
    case rel=>exact ⟨i+1,rfl,by omega,by omega,o.out⟩
  · have : i = n := by omega
    subst this;have af:Hid (P (V++vSsA w0 l a) wr):=by
     have:=o.out;rwa [List.take_of_length_le (by have:=HN.out;omega)] at this
    clear o;go_wp2_with fail;exact bodyPost_end (results_none rfl _ _ _) rfl ⟨rfl,af.out⟩
theorem vis_subsR {k1 k2:Value} {R:Nat->Prop} {w0:World} {Gd:List Vz->Prop} {P:List Vz->World->Prop} (H:VpR k1 k2 R w0 Gd P):∀ l:List St,∀ x∈l,VisSR k1 k2 R w0 Gd P x.body/\VisSR k1 k2 R w0 Gd P x.els:=by
 intro l;induction l using Sts.ind with
 | h0=>intro x c;cases c
 | h1 k n o e b l a r hb hl hr =>
   intro x c;rcases List.mem_cons.1 c with rfl | c
   · exact ⟨vis_stsR H hb,vis_stsR H hl⟩
   · exact hr x c
theorem p_eachStmtR {k1 k2:Value} {R:Nat->Prop} {w0:World} {Gd:List Vz->Prop} {P:List Vz->World->Prop} (H:VpR k1 k2 R w0 Gd P) (l:List St):VisSR k1 k2 R w0 Gd P l:=vis_stsR H (vis_subsR H l)
theorem p_eachPartR {k1 k2:Value} {R:Nat->Prop} {w0:World} {Gd:List Vz->Prop} {P:List Vz->World->Prop} (H:VpR k1 k2 R w0 Gd P) {x:Pg} (hok:okP x) {a1 a2 a3:Option Addr} {c1 c2 c3:Nat} {w:World} (h1:dcsAt R w0 x.shared a1) (h2:dcsAt R w0 x.locks a2) (h3:thsAt R w0 x.threads a3) (h0:P [] w) (hv0:Gd (vDsA w0 x.shared a1++vDsA w0 x.locks a2++vTsA w0 x.threads a3)) :
 Calls Tryz.prog 59 #[.agg #[.slice a1 x.shared.length c1,.slice a2 x.locks.length c2,.slice a3 x.threads.length c3],.func (.func 65) #[] #[k1,k2]] w fun e w'=>e=.returned (.tuple #[])/\P (vDsA w0 x.shared a1++vDsA w0 x.locks a2++vTsA w0 x.threads a3) w':=by
 obtain ⟨p,A,l⟩:=x;obtain ⟨E,o2,hl,D⟩:=hok;simp only at E o2 hl D h1 h2 h3 hv0 ⊢;obtain ⟨z,y⟩:=Qx w.heap.size;have ab:w0.heap.size<=z:=by rw [y];exact (H.sk h0).1
 obtain ⟨c,o⟩:∃ c:List Vz->World->Prop,c=fun V W=>P V W/\Own W z 26 #[.slice a1 p.length c1,.slice a2 A.length c2,.slice a3 l.length c3]:=⟨_,rfl⟩
 have H':VpR k1 k2 R w0 Gd c:=by
  subst o;refine ⟨fun h hb=>⟨H.keep h.1 hb,h.2.below hb⟩,fun h=>H.sk h.1,H.pre,fun h hv S hz=>(H.step h.1 hv S hz).mono fun e W' k=>⟨k.1,⟨k.2.1,(k.2.2 z ab h.2.lt).trans h.2⟩,k.2.2⟩⟩
 have HQ:Hid (∀ V W,c V W->P V W):=fun V W h=>by rw [o] at h;exact h.1
 have X:Hid (∀ V W,c V W->Own W z 26 #[.slice a1 p.length c1,.slice a2 A.length c2,.slice a3 l.length c3]):=fun V W h=>by rw [o] at h;exact h.2
 have b:Hid (c [] (w.alloc (.cells #[.slice a1 p.length c1,.slice a2 A.length c2,.slice a3 l.length c3] 26))):=by
  rw [Hid,o,y];exact ⟨H.keep h0 ((Below.refl _ w).alloc (Nat.le_refl _) _),Own.new w _ _⟩
 have f:Hid (∀ V W,c V W->W.cell? ⟨z,0,none⟩=some (.slice a1 p.length c1)/\W.cell? ⟨z,1,none⟩=some (.slice a2 A.length c2)/\W.cell? ⟨z,2,none⟩=some (.slice a3 l.length c3)):=fun V W h=>by
  have hO:=X.out V W h;exact ⟨cr hO,cr hO,cr hO⟩
 obtain ⟨V,hV⟩:=Qx (vDsA w0 p a1++vDsA w0 A a2);have I:Hid (∀ W,c [] W->Calls Tryz.prog 119 #[.slice a1 p.length c1,.func (.func 65) #[] #[k1,k2]] W fun e' w'=>e'=.returned (.tuple #[])/\c (vDsA w0 p a1) w'):=fun W hW=>p_eachDeclR H' E (V:=[]) h1 hW (H.pre (H.pre hv0))
 have ac:Hid (∀ W,c (vDsA w0 p a1) W->Calls Tryz.prog 119 #[.slice a2 A.length c2,.func (.func 65) #[] #[k1,k2]] W fun e' w'=>e'=.returned (.tuple #[])/\c V w'):=fun W hW=>by rw [hV];exact p_eachDeclR H' o2 h2 hW (H.pre hv0)
 rw [<- hV];have am:Hid (Gd (V++vTsA w0 l a3)):=by
  rw [hV];exact hv0
 have H:=Hd H';have HO:=Hd D;have E1:=Hd h3;obtain ⟨n,S⟩:=Qx l.length;rw [<- S] at hl ⊢ b f;have HN:=Hd S;obtain ⟨W0,C⟩:=Qx (w.alloc (.cells #[.slice a1 p.length c1,.slice a2 A.length c2,.slice a3 n c3] 26));rw [<- C] at b;have K:=Hd C;have Q:Hid (w.heap.size=z):=y.symm;clear S h1 h2 h3 h0 E o2 D hV C X o ab y H' hv0;generalize p.length=n1 at *;generalize A.length=n2 at *;go_enter Tryz.func59,Tryz.ntmps59;go_upto_region 1 with (fail)
 rw [<- K.out,Q.out];have T:=(f.out _ _ b.out).1;clear K Q;go_wp2_with fail;go_at_call 119;refine (I.out _ b.out).mono ?_;rintro e x1 ⟨rfl,a⟩;have d:=Hd a;clear a b T;have T:=(f.out _ _ d.out).2.1;go_wp2_with fail;go_at_call 119;refine (ac.out _ d.out).mono ?_;rintro e x2 ⟨rfl,a⟩;have b:=Hd a;clear a d T I ac;have T:=(f.out _ _ b.out).2.2;go_wp2_with fail;clear T;go_loopg [17] (n+1) (fun m' u W=>∃ i:Nat,u=.int .i64 (i:Int)/\i<=n/\m'=n-i+1/\c (V++vTsA w0 (l.take i) a3) W)
 case atStart=>exact ⟨0,rfl,Nat.zero_le _,by omega,by rw [List.take_zero,vTsA_nil,List.append_nil];exact b.out⟩
 case round =>
  obtain ⟨i,rfl,hi,hm,a⟩:=hrel;have HM:=Hd hm;have d:=Hd a;clear hm a b;by_cases hin:i<n
  · have il : i < l.length := by have := HN.out; omega
    have g1:l[i]? = some l[i]:=List.getElem?_eq_getElem il;have j:l[i]∈l:=List.getElem_mem il;generalize l[i]=x at g1 j;rcases E1.out with e | ⟨g,q,e,hg,e1⟩
    · cases l with
      | nil=>simp at il
      | cons=>cases e
    obtain rfl:a3=some ⟨g,q,none⟩:=e;have x1:=thsIn_get i x e1 g1;have HV:Hid (vTsA w0 (l.take (i+1)) (some ⟨g,q,none⟩)=vTsA w0 (l.take i) (some ⟨g,q,none⟩)++vT w0 x g (q+i*4)):=vTs_take w0 l i g q x g1;have a0:(i:Int)<(n:Int):=by omega
    have ad:=H.out.sk d.out;have ai:=Hd ad.1;have hok:=HO.out x j;obtain ⟨nm,G,L,ps⟩:=x;obtain ⟨b0,⟨m,N,M,Y⟩,⟨t,B,F,O⟩,b3⟩:=x1;obtain ⟨E,o3,D⟩:=hok;simp only at b0 M Y F O b3 E o3 D;obtain ⟨U,J⟩:=Qx (V++vTsA w0 (l.take i) (some ⟨g,q,none⟩)++[⟨⟨g,q+i*4+3,none⟩,[⟨g,q+i*4,none⟩]⟩]);have s:Gd (U++vDsA w0 G m++vSsA w0 L t):=by
     obtain ⟨r,hr⟩:=vTsA_split w0 l (i+1) (some ⟨g,q,none⟩);have Z:=am.out;rw [hr,<- List.append_assoc] at Z;have Z:=H.out.pre Z;rw [HV.out,vT,kD_of M Y,kS_of F O] at Z;rw [J];simpa only [List.append_assoc,List.cons_append,List.nil_append] using Z
    have HS:Hid (∀ W,Below wr.heap.size wr W->Calls Tryz.prog 65 #[.pointer (some ⟨g,q+i*4+3,none⟩),.slice (some ⟨W.heap.size,0,none⟩) 1 1,k1,k2] (W.alloc (.cells #[.pointer (some ⟨g,q+i*4,none⟩)] 129)) fun e' w'=>e'=.returned (.tuple #[])/\c U w'):=fun W hW=>by
     rw [J];exact (H.out.step (v:=⟨⟨g,q+i*4+3,none⟩,[⟨g,q+i*4,none⟩]⟩) (H.out.keep d.out (hW.alloc hW.size _)) (vok_th hg b0 F b3) (nms_one (Nat.le_trans ai.out hW.size)) (by rw [<- J];exact H.out.pre (H.out.pre s))).mono fun _ _ h=>⟨h.1,h.2.1⟩
    have H3:Hid (∀ W,c U W->W.cell? ⟨g,q+i*4+1,none⟩=some (.slice m G.length N)/\Calls Tryz.prog 119 #[.slice m G.length N,.func (.func 65) #[] #[k1,k2]] W fun e' w'=>e'=.returned (.tuple #[])/\c (U++vDsA w0 G m) w'):=fun W hW=>⟨(H.out.sk hW).sl M,p_eachDeclR H.out E Y hW (H.out.pre s)⟩
    have H4:Hid (∀ W,c (U++vDsA w0 G m) W->W.cell? ⟨g,q+i*4+2,none⟩=some (.slice t L.length B)/\Calls Tryz.prog 120 #[.slice t L.length B,.func (.func 65) #[] #[k1,k2]] W fun e' w'=>e'=.returned (.tuple #[])/\c (V++vTsA w0 (l.take (i+1)) (some ⟨g,q,none⟩)) w'):=fun W hW=>⟨(H.out.sk hW).sl F,by
     have:=p_eachStmtR H.out L D o3 t B _ W O hW s;rw [HV.out,vT,kD_of M Y,kS_of F O,<- List.append_assoc];rw [J] at this
     simpa only [List.append_assoc,List.cons_append,List.nil_append] using this⟩
    have c2:=(f.out _ _ d.out).2.2;clear g1 e1 il b0 M F b3 j ad HV hg d Y O E o3 D J s;generalize G.length=n3 at *;generalize L.length=n4 at *;go_wp2_with fail;go_region_with (go_at_call 65;refine (HS.out _ (below_drewN (Below.refl _ _) _)).mono ?_;rintro e x3 ⟨rfl,a⟩);have d:=Hd a;have b3:=(H3.out _ a).1;clear a HS c2;go_wp2_with fail;go_at_call 119;refine ((H3.out _ d.out).2).mono ?_;rintro e x4 ⟨rfl,a⟩;have d:=Hd a;have b4:=(H4.out _ a).1;clear a H3 b3;go_wp2_with fail;go_at_call 120;refine ((H4.out _ d.out).2).mono ?_;rintro e x5 ⟨rfl,a⟩;have d:=Hd a;clear a H4 b4;go_wp2_with fail;go_roundg (n-(i+1)+1)
    case measure=>have:=HM.out;omega
    case rel=>exact ⟨i+1,rfl,by omega,by omega,d.out⟩
  · have : i = n := by omega
    subst this;have ar:Hid (P (V++vTsA w0 l a3) wr):=by
     have:=HQ.out _ _ d.out;rwa [List.take_of_length_le (by have:=HN.out;omega)] at this
    clear d;go_wp2_with fail;exact bodyPost_end (results_none rfl _ _ _) rfl ⟨rfl,ar.out⟩
structure Zr (B fb tb:Nat) (f t:ByteArray) (w0:World) (V:List Vz) (W:World):Prop where
 zn:Zn B w0 (gR f t) (adr V) W
 cf:w0.cell? ⟨fb,0,none⟩=some (.string f)
 ct:w0.cell? ⟨tb,0,none⟩=some (.string t)
 lf:fb<B
 lt:tb<B
 ok:nmOk t
theorem bytes_eqT {a b:ByteArray} (h:a=b):(a.toList==b.toList)=true:=by subst h;simp
theorem bytes_eqF {a b:ByteArray} (h:a≠b):(a.toList==b.toList)=false:=by
 rw [Lib.toList_data,Lib.toList_data];exact beq_eq_false_iff_ne.2 fun e=>h (bytes_same (by rw [e];simp))
theorem nms_get {w0 W:World} {l:List Addr} {s:Value} (h:NmS w0 W l s):∃ sa,s=.slice sa l.length l.length/\∀ i x,l[i]? = some x->∃ b,sa=some ⟨b,0,none⟩/\w0.heap.size<=b/\b<W.heap.size/\W.cell? ⟨b,i,none⟩=some (.pointer (some x)):=by
 rcases h with ⟨rfl,rfl⟩ | ⟨b,rfl,c,d,a⟩
 · exact ⟨none,rfl,fun i x h=>by simp at h⟩
 · exact ⟨some ⟨b,0,none⟩,rfl,fun i x h=>⟨b,rfl,c,d,a i x h⟩⟩
theorem zr_step {B fb tb:Nat} {f t:ByteArray} {w0 W:World} {V:List Vz} {v:Vz} {s:Value} (h:Zr B fb tb f t w0 V W) (hv:Vok (Rz B w0) w0 v) (hn:NmS w0 W v.nm s) (hlen:v.nm.length<=2):Calls Tryz.prog 65 #[.pointer (some v.pl),s,.pointer (some ⟨fb,0,none⟩),.pointer (some ⟨tb,0,none⟩)] W fun e W'=>e=.returned (.tuple #[])/\Zr B fb tb f t w0 (V++[v]) W'/\∀ b,w0.heap.size<=b->b<W.heap.size->W'.heap[b]? = W.heap[b]?:=by
 obtain ⟨pl,nm⟩:=v;obtain ⟨sa,rfl,R⟩:=nms_get hn;simp only at R hlen ⊢;obtain ⟨n,y⟩:=Qx nm.length;rw [<- y] at hlen ⊢;have HN:=Hd R;have K:=Hd y;have ac:Hid (∀ a∈nm,Rz B w0 a.block/\a.spot=none/\∃ u,w0.cell? a=some (.string u)):=hv.nm;have aa:Hid (∀ X,Calls Tryz.prog 63 #[.string t] X fun e w'=>e=.returned (.string t)/\Below X.heap.size X w'):=fun X=>p_clone t h.ok X
 have H:=Hd h;clear h hv hn y R;go_enter Tryz.func65,Tryz.ntmps65;go_wp2_with fail;go_loopg [10] (n+1) (fun m' u X=>∃ i:Nat,u=.int .i64 (i:Int)/\i<=n/\m'=n-i+1/\Zn B w0 (gR f t) (adr V++nm.take i) X/\W.heap.size<=X.heap.size/\∀ b,w0.heap.size<=b->b<W.heap.size->X.heap[b]? = W.heap[b]?)
 case atStart=>exact ⟨0,rfl,Nat.zero_le _,by omega,by rw [List.take_zero,List.append_nil];exact H.out.zn,Nat.le_refl _,fun _ _ _=>rfl⟩
 case round =>
  obtain ⟨i,rfl,hi,hm,l,O,E⟩:=hrel;have T:=Hd hm;have HZ:=Hd l;have Q:=Hd E;have Z:=Hd O;clear hm E O;by_cases hin:i<n
  · have P : i < nm.length := by have := K.out; omega
    have U:nm[i]? = some nm[i]:=List.getElem?_eq_getElem P;have S:Hid (∀ g o,nm[i]=(⟨g,o,none⟩:Addr)->nm.take (i+1)=nm.take i++[⟨g,o,none⟩]):=fun g o e=>by rw [List.take_succ_eq_append_getElem P,e]
    obtain ⟨b,rfl,J,N,q⟩:=HN.out i _ U;obtain ⟨r,m,I,G⟩:=ac.out _ (List.getElem_mem P);generalize nm[i]=a at q r m G S U;obtain ⟨g,o,sp⟩:=a;simp only at r m;subst m;have C:Hid (nm.take (i+1)=nm.take i++[⟨g,o,none⟩]):=S.out g o rfl;have ai:(i:Int)<(n:Int):=by omega
    have cP:wr.cell? ⟨b,i,none⟩=some (.pointer (some ⟨g,o,none⟩)):=by rw [World.cell?_of_block (w:=W) (a:=⟨b,i,none⟩) (Q.out b J N)];exact q
    obtain ⟨u,x,D⟩:=zn_name l G;have cF:wr.cell? ⟨fb,0,none⟩=some (.string f):=by rw [l.below.cell (p:=⟨fb,0,none⟩) H.out.lf];exact H.out.cf
    have cT:wr.cell? ⟨tb,0,none⟩=some (.string t):=by rw [l.below.cell (p:=⟨tb,0,none⟩) H.out.lt];exact H.out.ct
    have HG:Hid (g<w0.heap.size):=r.2.1;have d:Hid ((u=ByteArray.empty\/u≠f)->∀ X,Below wr.heap.size wr X->Zn B w0 (gR f t) (adr V++nm.take (i+1)) X):=fun hne X hX=>by
     rw [C.out,<- List.append_assoc];refine zn_skip (zn_keep l hX) r G ?_;rw [hX.cell (p:=⟨g,o,none⟩) (cell_lt D),D];rcases x with rfl | rfl
     · unfold gR
       rw [if_neg];rintro ⟨Y,e2⟩;exact hne.elim (fun e=>e2 e) (fun e=>e Y)
     · rfl
    have k:Hid (u≠ByteArray.empty->u=f->∀ X,Below wr.heap.size wr X->Zn B w0 (gR f t) (adr V++nm.take (i+1)) (X.setCell ⟨g,o,none⟩ (.string t))):=fun h1 h2 X hX=>by
     have e:gR f t I=t:=by
      rcases x with rfl | x
      · exact if_pos ⟨h2,h1⟩
      · by_cases e : I = f /\ I ≠ ⟨#[]⟩
        · exact if_pos e
        · have Y : gR f t I = I := if_neg e
          rw [Y] at x;exact absurd ⟨x ▸ h2,x ▸ h1⟩ e
     have:=zn_set (zn_keep l hX) r G;rw [e] at this;rw [C.out,<- List.append_assoc];exact this
    have z:Hid (∀ X,Below wr.heap.size wr X->X.frozen? ⟨g,o,none⟩=false/\X.cell? ⟨g,o,none⟩=some (.string u)):=fun X hX=>by
     have M:g<wr.heap.size:=cell_lt D;exact ⟨by rw [hX.frozen (p:=⟨g,o,none⟩) M];exact l.free g r o,by rw [hX.cell (p:=⟨g,o,none⟩) M];exact D⟩
    have c:Hid (∀ X,Below wr.heap.size wr X->W.heap.size<=X.heap.size/\(∀ b,w0.heap.size<=b->b<W.heap.size->X.heap[b]? = W.heap[b]?)/\∀ b,w0.heap.size<=b->b<W.heap.size->(X.setCell ⟨g,o,none⟩ (.string t)).heap[b]? = W.heap[b]?):=fun X hX=>by
     have O:=Z.out;refine ⟨Nat.le_trans O hX.size,fun b h1 h2=>by rw [hX.block b (by omega)];exact Q.out b h1 h2,fun b h1 h2=>?_⟩
     have:=HG.out;rw [Below.heap_setCell _ _ _ _ (by show b≠g;omega),hX.block b (by omega)]
     exact Q.out b h1 h2
    clear x G r S P U l J N q;by_cases q0:u=ByteArray.empty
    · have q1 : (u.toList == ([] : List UInt8)) = true := by rw [q0, Lib.toList_data]; rfl
      have A:=Hd (d.out (.inl q0));clear q0 d k cT;go_wp2_with fail;go_quiet (fail);go_wp2_with fail;go_roundg (n-(i+1)+1)
      case measure=>have:=T.out;omega
      case rel=>exact ⟨i+1,rfl,by omega,by omega,A.out _ (by first | exact below_drewN (Below.refl _ _) _ | exact Below.refl _ _),(c.out _ (by first | exact below_drewN (Below.refl _ _) _ | exact Below.refl _ _)).1,(c.out _ (by first | exact below_drewN (Below.refl _ _) _ | exact Below.refl _ _)).2.1⟩
    · have q1 : (u.toList == ([] : List UInt8)) = false := by have := bytes_eqF q0; simpa using this
      by_cases q2:u=f
      · have q3 := bytes_eqT q2
        have A:=Hd (k.out q0 q2);clear q0 q2 d k;go_wp2_with fail;go_quiet (fail);go_wp2_with fail;go_at_call 63;refine (aa.out _).mono ?_;rintro e L ⟨rfl,hb⟩;have j:Below wr.heap.size wr L:=(below_drewN (Below.refl _ _) _).trans (hb.mono (by first | exact Nat.le_refl _ | simp))
        have am:=(z.out L j).1;have ak:=(z.out L j).2;have ad:=Hd (A.out L j);have F:=Hd (c.out L j);clear hb j z c A cP D cF cT;go_wp2_with fail;go_roundg (n-(i+1)+1)
        case measure=>have:=T.out;omega
        case rel=>exact ⟨i+1,rfl,by omega,by omega,ad.out,by rw [World.size_setCell];exact F.out.1,F.out.2.2⟩
      · have q3 := bytes_eqF q2
        have A:=Hd (d.out (.inr q2));clear q0 q2 d k;go_wp2_with fail;go_quiet (fail);go_wp2_with fail;go_roundg (n-(i+1)+1)
        case measure=>have:=T.out;omega
        case rel=>exact ⟨i+1,rfl,by omega,by omega,A.out _ (by first | exact below_drewN (Below.refl _ _) _ | exact Below.refl _ _),(c.out _ (by first | exact below_drewN (Below.refl _ _) _ | exact Below.refl _ _)).1,(c.out _ (by first | exact below_drewN (Below.refl _ _) _ | exact Below.refl _ _)).2.1⟩
  · have : i = n := by omega
    subst this;have ab:Hid (Zr B fb tb f t w0 (V++[⟨pl,nm⟩]) wr):=by
     have:=HZ.out;rw [List.take_of_length_le (by have:=K.out;omega)] at this
     exact ⟨by rw [adr_app];simpa [adr] using this,H.out.cf,H.out.ct,H.out.lf,H.out.lt,H.out.ok⟩
    clear l HZ;go_wp2_with fail;exact bodyPost_end (results_none rfl _ _ _) rfl ⟨rfl,ab.out,Q.out⟩
open Go.RowKit Go.Maps
def GdN (w0:World) (l:List Vz):Prop:=l.length<=1048576/\∀ z∈l,z.nm.length<=2/\∀ a∈z.nm,∀ s,w0.cell? a=some (.string s)->s.size<=maxLen
theorem gdN_pre {w0:World} {A B:List Vz} (h:GdN w0 (A++B)):GdN w0 A:=⟨by have:=h.1;rw [List.length_append] at this;omega,fun z hz=>h.2 z (by simp [hz])⟩
theorem mlaw:Keyed Tryz.prog 9:=string_keyed Tryz.underlying9
theorem mzero (w:World):(zeroValue 3).run Tryz.prog w=.ok (.int .i64 0) w:=by kernel_rfl
def Mk (m:Nat) (w0:World) (V:List Vz) (pl:Addr) (l:List Addr) (X:World):Prop:=∃ (n:Nat) (D:DataW Unit),n<=2*V.length+l.length/\MO X m n D/\∀ s,has D (.string s)=true↔s≠[]/\nmC w0 (V++[⟨pl,l⟩]) ⟨s.toArray⟩
theorem mk_same {m:Nat} {w0:World} {V:List Vz} {pl:Addr} {l:List Addr} {X Y:World} (h:Mk m w0 V pl l X) (e:Y.heap[m]? = X.heap[m]?):Mk m w0 V pl l Y:=by
 obtain ⟨n,D,c,b,a⟩:=h;exact ⟨n,D,c,mo_same b e,a⟩
theorem nmC_snoc {w0:World} {V:List Vz} {pl a:Addr} {l:List Addr} {s u:ByteArray} (h:w0.cell? a=some (.string s)):nmC w0 (V++[⟨pl,l++[a]⟩]) u↔nmC w0 (V++[⟨pl,l⟩]) u\/u=s:=by
 rw [nmC_app,nmC_app,or_assoc];refine or_congr Iff.rfl ⟨fun ⟨b,c,e⟩=>?_,fun k=>?_⟩
 · simp only [adr, List.flatMap_cons, List.flatMap_nil, List.append_nil, List.mem_append, List.mem_singleton] at c
   rcases c with c | rfl
   · exact .inl ⟨b,by simpa [adr] using c,e⟩
   · rw [h] at e;injection Option.some.inj e with e;exact .inr e.symm
 · rcases k with ⟨b, c, e⟩ | rfl
   · exact ⟨b,by simp only [adr,List.flatMap_cons,List.flatMap_nil,List.append_nil,List.mem_append,List.mem_singleton] at c ⊢;exact .inl c,e⟩
   · exact ⟨a,by simp [adr],h⟩
theorem mk_skip {m:Nat} {w0:World} {V:List Vz} {pl a:Addr} {l:List Addr} {X:World} (h:Mk m w0 V pl l X) (hs:w0.cell? a=some (.string ByteArray.empty)):Mk m w0 V pl (l++[a]) X:=by
 obtain ⟨n,D,g,f,d⟩:=h;refine ⟨n,D,by rw [List.length_append];omega,f,fun s=>(d s).trans ⟨fun ⟨h1,c⟩=>⟨h1,(nmC_snoc hs).2 (.inl c)⟩,fun ⟨h1,c⟩=>⟨h1,?_⟩⟩⟩
 rcases (nmC_snoc hs).1 c with c | c
 · exact c
 · exact absurd (by have:=congrArg (fun b:ByteArray=>b.data.toList) c;simpa using this) h1
theorem mo_isMap {w:World} {m n:Nat} {D:DataW Unit} (h:MO w m n D):IsMap D:=by
 obtain ⟨b,c,a,F,d,rfl⟩:=h;exact ⟨_,rfl⟩
theorem mk_put {m:Nat} {w0:World} {V:List Vz} {pl a:Addr} {l:List Addr} {X:World} {s:ByteArray} (h:Mk m w0 V pl l X) (hs:w0.cell? a=some (.string s)) (hne:s≠ByteArray.empty) (hlen:s.size<=maxLen) (hb:2*V.length+l.length<4194304) :
 ∃ c, (∀ Y : World, Y.heap[m]? = X.heap[m]? -> (Instr.lookup 125 (.map (some m)) (.string s) false).run Tryz.prog Y = .ok (.int .i64 c) Y) /\
   ∃ F:World->World,∀ Y:World,Y.heap[m]? = X.heap[m]? -> (Instr.mapUpdate 125 (.map (some m)) (.string s) (.int .i64 (wrap64 (c+1)))).run Tryz.prog Y=.ok () (F Y)/\Mk m w0 V pl (l++[a]) (F Y)/\Y.grownBy (F Y) (some m):=by
 obtain ⟨n,D,y,k,x⟩:=h;have b:keyOf Tryz.prog 9 (.string s)=some (.string s.data.toList):=WideMaps.keyOf_string_mk Tryz.underlying9 hlen;obtain ⟨c,q,o,_⟩:=k.lookup_int mlaw Tryz.underlying125 Tryz.underlying3 (mzero _) b;have p:∀ Y:World,Y.heap[m]? = X.heap[m]? -> (Instr.lookup 125 (.map (some m)) (.string s) false).run Tryz.prog Y=.ok (.int .i64 c) Y:=fun Y e=>by
  obtain ⟨r,f,d,_⟩:=(mo_same k e).lookup_int mlaw Tryz.underlying125 Tryz.underlying3 (mzero _) b;rw [o] at d;have:c=r:=by simpa using d
  rw [f,this]
 refine ⟨c,p,?_⟩;have j:∀ Y:World,∃ Z:World,Y.heap[m]? = X.heap[m]? -> (Instr.mapUpdate 125 (.map (some m)) (.string s) (.int .i64 (wrap64 (c+1)))).run Tryz.prog Y=.ok () Z/\Mk m w0 V pl (l++[a]) Z/\Y.grownBy Z (some m):=fun Y=>by
  by_cases e:Y.heap[m]? = X.heap[m]?
  · obtain ⟨Z, i, g, t⟩ := (mo_same k e).update mlaw Tryz.underlying125 (show n < maxLen by unfold maxLen; omega) b (plainElem_int Tryz.underlying3 (wrap64_wf (c + 1)))
    refine ⟨Z,fun _=>⟨i,⟨n+1,_,by rw [List.length_append];simp only [List.length_singleton];omega,g,fun u=>?_⟩,t⟩⟩
    rw [has_name (mo_isMap k) (by exact hlen),x u,nmC_snoc hs]
    have v:(⟨u.toArray⟩:ByteArray)=s↔u=s.data.toList:=⟨fun e=>by rw [<- e],fun e=>by rw [e,bytes_back]⟩
    rw [v];constructor
    · rintro (rfl | ⟨i, g⟩)
      · exact ⟨fun e=>hne (by rw [<- bytes_back s,e];rfl),.inr rfl⟩
      · exact ⟨i,.inl g⟩
    · rintro ⟨i, g | g⟩
      · exact .inr ⟨i,g⟩
      · exact .inl g
  · exact ⟨Y,fun h=>absurd h e⟩
 exact ⟨fun Y=>(j Y).choose,fun Y=>(j Y).choose_spec⟩
theorem nk_step {R:Nat->Prop} {fb m:Nat} {w0 W:World} {V:List Vz} {v:Vz} {s:Value} (h:Nk fb m w0 V W) (hv:Vok R w0 v) (hn:NmS w0 W v.nm s) (hg:GdN w0 (V++[v])):Calls Tryz.prog 60 #[.pointer (some v.pl),s,.pointer (some ⟨fb,0,none⟩)] W fun e W'=>e=.returned (.tuple #[])/\Nk fb m w0 (V++[v]) W'/\∀ b,w0.heap.size<=b->b<W.heap.size->W'.heap[b]? = W.heap[b]?:=by
 obtain ⟨pl,nm⟩:=v;obtain ⟨sa,rfl,hq⟩:=nms_get hn;have r:nm.length<=2:=(hg.2 ⟨pl,nm⟩ (by simp)).1
 have d:∀ a∈nm,∀ s,w0.cell? a=some (.string s)->s.size<=maxLen:=(hg.2 ⟨pl,nm⟩ (by simp)).2
 have Q:V.length<=1048576:=by have:=hg.1;rw [List.length_append] at this;omega
 simp only at hq r ⊢;obtain ⟨n,B⟩:=Qx nm.length;rw [<- B] at r ⊢;have HN:=Hd hq;have C:=Hd B;have aj:Hid (∀ a∈nm,a.spot=none/\∃ u,w0.cell? a=some (.string u)):=fun a ha=>(hv.nm a ha).2
 have af:=Hd d;have aa:=Hd Q;have H:=Hd h;have t:Mk m w0 V pl (nm.take 0) W:=by
  obtain ⟨n,D,A,M,Y⟩:=h.map;refine ⟨n,D,by simpa using A,M,fun s=>?_⟩
  rw [Y,List.take_zero,nmC_app];exact and_congr Iff.rfl ⟨.inl,fun h=>h.elim id fun h=>absurd h nmC_zero⟩
 have S:=Hd t;clear h hv hn B hg d t Q hq;go_enter Tryz.func60,Tryz.ntmps60;go_wp2_with fail;go_loopg [9] (n+1) (fun m' u X=>∃ i:Nat,u=.int .i64 (i:Int)/\i<=n/\m'=n-i+1/\Mk m w0 V pl (nm.take i) X/\W.grownBy X (some m))
 case atStart=>exact ⟨0,rfl,Nat.zero_le _,by omega,S.out,⟨rfl,rfl,rfl,Nat.le_refl _,fun _ _ _=>rfl⟩⟩
 case round =>
  obtain ⟨i,rfl,hi,hm,Z,l⟩:=hrel;have HM:=Hd hm;have q:=Hd l;have J:=Hd Z;clear hm;by_cases hin:i<n
  · have L : i < nm.length := by have := C.out; omega
    have g1:nm[i]? = some nm[i]:=List.getElem?_eq_getElem L;have HT:Hid (nm.take (i+1)=nm.take i++[nm[i]]):=List.take_succ_eq_append_getElem L;obtain ⟨b,rfl,ah,T,y⟩:=HN.out i _ g1;obtain ⟨x,u,N⟩:=aj.out _ (List.getElem_mem L);have z:=af.out _ (List.getElem_mem L) u N;generalize nm[i]=a at y x N HT g1 z;obtain ⟨g,o,sp⟩:=a;simp only at x;subst x;have K:=nk_lt H.out;have an:(i:Int)<(n:Int):=by omega
    have f:∀ {a:Addr} {v:Value},w0.cell? a=some v->wr.cell? a=some v:=fun {a v} ha=>by
     have A:=nk_cell H.out ha;have p:a.block≠m:=fun e=>by
      obtain ⟨es,c,h⟩:=H.out.mp;obtain ⟨b,o,sp⟩:=a;simp only at e;subst e;simp [World.cell?,h] at ha
     rw [World.cell?_of_block (l.block a.block (cell_lt A) fun e=>p (Option.some.inj e))];exact A
    have cP:wr.cell? ⟨b,i,none⟩=some (.pointer (some ⟨g,o,none⟩)):=by
     rw [World.cell?_of_block (w:=W) (a:=⟨b,i,none⟩) (l.block b T fun e=>by have:=Option.some.inj e;omega)];exact y
    have cU:=f N;have cM:=f H.out.fd;have P:=Hd N;have ak:Hid (2*V.length+(nm.take i).length<4194304):=by
     have:=aa.out;rw [Hid,List.length_take];omega
    clear f N g1 L ah T y l K;by_cases q0:u=ByteArray.empty
    · have q1 : (u.toList == ([] : List UInt8)) = true := by rw [q0, Lib.toList_data]; rfl
      have HQ:Hid (∀ X:World,X.heap[m]? = wr.heap[m]? -> Mk m w0 V pl (nm.take (i+1)) X):=fun X e=>by
       rw [HT.out];exact mk_skip (mk_same J.out e) (by rw [P.out,q0])
      clear q0 Z J cM;go_wp2_with fail;go_roundg (n-(i+1)+1)
      case measure=>have:=HM.out;omega
      case rel=>exact ⟨i+1,rfl,by omega,by omega,HQ.out _ rfl,q.out⟩
    · have q1 : (u.toList == ([] : List UInt8)) = false := by have := bytes_eqF q0; simpa using this
      obtain ⟨c,O,F,U⟩:=mk_put J.out P.out q0 z ak.out;rw [<- HT.out] at U;have ao:=O wr.drew rfl;have ag:(Instr.mapUpdate 125 (.map (some m)) (.string u) (.int .i64 (IntKind.i64.wrap (c+1)))).run Tryz.prog wr.drew=.ok () (F wr.drew):=by rw [show IntKind.i64.wrap (c+1)=wrap64 (c+1) from by rw [IntKind.wrap_i64];unfold wrap64;omega];exact (U wr.drew rfl).1
      have E:Hid (Mk m w0 V pl (nm.take (i+1)) (F wr.drew)/\wr.grownBy (F wr.drew) (some m)):=by
       have G:=(U wr.drew rfl).2;exact ⟨G.1,⟨G.2.os,G.2.tape,G.2.output,G.2.size,G.2.block⟩⟩
      clear q0 Z z U O;generalize F wr.drew=X1 at ag E;go_wp2_with fail;go_region_with (fail)
      all_goals
       go_wp2_with fail;go_roundg (n-(i+1)+1)
       case measure=>have:=HM.out;omega
       case rel=>exact ⟨i+1,rfl,by omega,by omega,E.out.1,q.out.andThen E.out.2 (fun j hj=>.inr hj)⟩
  · have : i = n := by omega
    subst this;have ae:Hid (Nk fb m w0 (V++[⟨pl,nm⟩]) wr):=by
     obtain ⟨n,D,A,M,Y⟩:=J.out;rw [List.take_of_length_le (by have:=C.out;omega)] at A Y
     have hg:=q.out;have I:=H.out.grown;refine ⟨H.out.mp,H.out.fd,⟨hg.os.trans I.os,hg.tape.trans I.tape,hg.output.trans I.output,Nat.le_trans I.size hg.size,fun k hk p=>?_⟩,n,D,?_,M,Y⟩
     · rw [hg.block k (Nat.lt_of_lt_of_le hk I.size) p];exact I.block k hk p
     · have := C.out
       rw [List.length_append];simp only [List.length_singleton];omega
    have ai:Hid (∀ b,w0.heap.size<=b->b<W.heap.size->wr.heap[b]? = W.heap[b]?):=fun b A M=>q.out.block b M fun e=>by have:=nk_lt H.out;have:=Option.some.inj e;omega
    clear Z J l;go_wp2_with fail;exact bodyPost_end (results_none rfl _ _ _) rfl ⟨rfl,ae.out,ai.out⟩
theorem vEs_two (w:World):∀ (l:List Ex) (g o:Nat),∀ z∈vEs w l g o,z.nm.length<=2:=by
 intro l;induction l using Exs.ind with
 | h0=>intro g o z a;cases a
 | h1 k op wd nm ks p r ih1 ih2 =>
   intro g o z a;simp only [vEs,vE,List.mem_append,List.mem_cons] at a;rcases a with (rfl | a) | a
   · by_cases e : k = 2
     · simp [e]
     · simp [e]
   · exact ih1 _ _ z a
   · exact ih2 _ _ z a
theorem vSs_two (w:World):∀ (l:List St) (g o:Nat),∀ z∈vSs w l g o,z.nm.length<=2:=by
 intro l;induction l using Sts.ind with
 | h0=>intro g o z a;cases a
 | h1 k n ot e b l p r ih1 ih2 ih3 =>
   intro g o z a;simp only [vSs,vS,List.mem_append,List.mem_cons] at a;rcases a with (rfl | a | a | a) | a
   · simp
   · exact vEs_two w e _ _ z a
   · exact ih1 _ _ z a
   · exact ih2 _ _ z a
   · exact ih3 _ _ z a
theorem vDs_two (w:World):∀ (l:List Dc) (g o:Nat),∀ z∈vDs w l g o,z.nm.length<=2
 | [],_,_,z,hz=>by cases hz
 | x :: r, g, o, z, hz => by
   simp only [vDs,vD,List.mem_append,List.mem_cons,List.not_mem_nil,or_false] at hz
   rcases hz with rfl | hz
   · simp
   · exact vDs_two w r g _ z hz
theorem vTs_two (w:World):∀ (l:List Th) (g o:Nat),∀ z∈vTs w l g o,z.nm.length<=2
 | [],_,_,z,hz=>by cases hz
 | x :: r, g, o, z, hz => by
   simp only [vTs,vT,List.mem_append,List.mem_cons] at hz
   rcases hz with (rfl | hz | hz) | hz
   · simp
   · exact vDs_two w x.locals _ _ z hz
   · exact vSs_two w x.body _ _ z hz
   · exact vTs_two w r g _ z hz
theorem vP_two (w:World) (x:Pg) (a1 a2 a3:Option Addr):∀ z∈vDsA w x.shared a1++vDsA w x.locks a2++vTsA w x.threads a3,z.nm.length<=2:=by
 have c:∀ (l:List Dc) (a:Option Addr),∀ z∈vDsA w l a,z.nm.length<=2:=fun l a z b=>by
  cases a with
  | none=>cases b
  | some p=>exact vDs_two w l _ _ z b
 intro z b;simp only [List.mem_append] at b;rcases b with (b | b) | b
 · exact c _ _ z b
 · exact c _ _ z b
 · cases a3 with
   | none=>cases b
   | some p=>exact vTs_two w x.threads _ _ z b
theorem fitEs_nm:∀ l:List Ex,fitEs l->∀ s∈nmEs l,nmOk s:=by
 intro l;induction l using Exs.ind with
 | h0=>intro _ s a;cases a
 | h1 k op wd nm ks p r ih1 ih2 =>
   intro h s a;simp only [nmEs,nmE,List.mem_append] at a;rcases a with (a | a) | a
   · by_cases e : k = 2
     · rw [if_pos e] at a
       obtain rfl:s=nm:=by simpa using a
       exact h.1.1
     · rw [if_neg e] at a;cases a
   · exact ih1 h.1.2.2 s a
   · exact ih2 h.2 s a
theorem fitSs_nm:∀ l:List St,fitSs l->∀ s∈nmSs l,nmOk s:=by
 intro l;induction l using Sts.ind with
 | h0=>intro _ s a;cases a
 | h1 k n ot e b l p r ih1 ih2 ih3 =>
   intro h s a;obtain ⟨⟨c,f,⟨m,j⟩,⟨o,g⟩,q,i⟩,d⟩:=h;simp only [nmSs,nmS,List.mem_append,List.mem_cons] at a;rcases a with (rfl | rfl | a | a | a) | a
   · exact c
   · exact f
   · exact fitEs_nm e j s a
   · exact ih1 g s a
   · exact ih2 i s a
   · exact ih3 d s a
theorem fitDs_nm {l:List Dc} (h:fitDs l):∀ s∈nmDs l,nmOk s:=fun s hs=>by
 obtain ⟨d,hd,rfl⟩:=List.mem_map.1 hs
 exact h d hd
theorem fitP_nm {x:Pg} (h:fitP x):∀ s∈nmP x,nmOk s:=fun s hs=>by
 obtain ⟨⟨h1,h2⟩,⟨h3,h4⟩,h5,h6⟩:=h
 simp only [nmP,List.mem_append] at hs
 rcases hs with (hs | hs) | hs
 · exact fitDs_nm h2 s hs
 · exact fitDs_nm h4 s hs
 · obtain ⟨t, ht, hs⟩ := List.mem_flatMap.1 hs
   obtain ⟨k0,⟨k1,k2⟩,k3,k4⟩:=h6 t ht
   simp only [nmT,List.mem_cons,List.mem_append] at hs
   rcases hs with rfl | hs | hs
   · exact k0
   · exact fitDs_nm k2 s hs
   · exact fitSs_nm _ k4 s hs
theorem nmC_P {R:Nat->Prop} {w:World} {x:Pg} {a1 a2 a3:Option Addr} (h1:dcsAt R w x.shared a1) (h2:dcsAt R w x.locks a2) (h3:thsAt R w x.threads a3) (s:ByteArray):nmC w (vDsA w x.shared a1++vDsA w x.locks a2++vTsA w x.threads a3) s↔s∈nmP x:=by
 rw [nmC_app,nmC_app,nmC_dcsA h1,nmC_dcsA h2,nmC_thsA h3];simp only [nmP,List.mem_append]
theorem gdN_P {R:Nat->Prop} {w:World} {x:Pg} {a1 a2 a3:Option Addr} (hb:ctP x<=1048576) (hf:fitP x) (h1:dcsAt R w x.shared a1) (h2:dcsAt R w x.locks a2) (h3:thsAt R w x.threads a3):GdN w (vDsA w x.shared a1++vDsA w x.locks a2++vTsA w x.threads a3) :=
 ⟨vP_ct w hb a1 a2 a3,fun z hz=>⟨vP_two w x a1 a2 a3 z hz,fun a ha s hs=>by
  have h:=fitP_nm hf s ((nmC_P h1 h2 h3 s).1 ⟨a,by simp only [adr,List.mem_flatMap];exact ⟨z,hz,ha⟩,hs⟩)
  unfold nmOk at h;unfold maxLen;omega⟩⟩
structure B4 (w:World) (f t:ByteArray) (r z:Array Value) (W:World):Prop where
 own0:Own W w.heap.size 26 r
 own1:Own W (w.heap.size+1) 9 #[.string f]
 own2:Own W (w.heap.size+2) 9 #[.string t]
 own3:Own W (w.heap.size+3) 26 z
 bel:Below w.heap.size w W
theorem b4_new (w:World) (f t:ByteArray) (r z:Array Value):B4 w f t r z ((((w.alloc (.cells r 26)).alloc (.cells #[.string f] 9)).alloc (.cells #[.string t] 9)).alloc (.cells z 26)):=by
 have d:=Own.new w 26 r;have b:=Own.new (w.alloc (.cells r 26)) 9 #[.string f];have c:=Own.new ((w.alloc (.cells r 26)).alloc (.cells #[.string f] 9)) 9 #[.string t];have a:=Own.new (((w.alloc (.cells r 26)).alloc (.cells #[.string f] 9)).alloc (.cells #[.string t] 9)) 26 z;simp only [World.size_alloc] at b c a;exact ⟨((d.alloc _).alloc _).alloc _,(b.alloc _).alloc _,c.alloc _,a,((((Below.refl _ w).alloc (Nat.le_refl _) _).alloc (by simp only [World.size_alloc];omega) _).alloc (by simp only [World.size_alloc];omega) _).alloc (by simp only [World.size_alloc];omega) _⟩
theorem b4_below {w W W':World} {f t:ByteArray} {r z:Array Value} (h:B4 w f t r z W) (hb:Below W.heap.size W W'):B4 w f t r z W':=⟨h.own0.below hb,h.own1.below hb,h.own2.below hb,h.own3.below hb,h.bel.trans (hb.mono h.bel.size)⟩
theorem vp_zr {B fb tb:Nat} {f t:ByteArray} {w0:World} : VpR (.pointer (some ⟨fb,0,none⟩)) (.pointer (some ⟨tb,0,none⟩)) (Rz B w0) w0 (fun l=>∀ z∈l,z.nm.length<=2) (Zr B fb tb f t w0) :=
 ⟨fun h hb=>⟨zn_keep h.zn hb,h.cf,h.ct,h.lf,h.lt,h.ok⟩,fun h=>zn_sk h.zn,fun h z hz=>h z (by simp [hz]),fun h hv hn hg=>zr_step h hv hn (hg _ (by simp))⟩
def RenP (x:Pg) (f t:ByteArray) (w:World) (e:Ending) (w':World):Prop:=∃ s1 t1 s2 t2 s3 t3,e=.returned (.agg #[.slice s1 x.shared.length t1,.slice s2 x.locks.length t2,.slice s3 x.threads.length t3])/\dcsAt (Rf w.heap.size w') w' (x.shared.map (Dc.ren (gR f t))) s1/\dcsAt (Rf w.heap.size w') w' (x.locks.map (Dc.ren (gR f t))) s2/\thsAt (Rf w.heap.size w') w' (x.threads.map (Th.ren (gR f t))) s3/\Below w.heap.size w w'
theorem p_renamed (x:Pg) (hf:fitP x) (hok:okP x) (hr:rP x=true) (f t:ByteArray) (ht:nmOk t) {v:Value} {w:World} (hv:pA w x v):Calls Tryz.prog 29 #[v,.string f,.string t] w (RenP x f t w):=by
 have B:Hid (∀ W,Below w.heap.size w W->Calls Tryz.prog 64 #[v] W (CpyP x W)):=fun W hW=>p_CopyF x hf (pA_below hv hW)
 have E:Hid (∀ (W:World) d k a l c j,w.heap.size+4<=W.heap.size->W.cell? ⟨w.heap.size+1,0,none⟩=some (.string f)->W.cell? ⟨w.heap.size+2,0,none⟩=some (.string t)->dcsAt (Rz (w.heap.size+4) W) W x.shared d->dcsAt (Rz (w.heap.size+4) W) W x.locks a->thsAt (Rz (w.heap.size+4) W) W x.threads c->Calls Tryz.prog 59 #[.agg #[.slice d x.shared.length k,.slice a x.locks.length l,.slice c x.threads.length j],.func (.func 65) #[] #[.pointer (some ⟨w.heap.size+1,0,none⟩),.pointer (some ⟨w.heap.size+2,0,none⟩)]] W fun e w'=>e=.returned (.tuple #[])/\∃ L,Zn (w.heap.size+4) W (gR f t) L w'/\dcsAt (Rf (w.heap.size+4) w') w' (x.shared.map (Dc.ren (gR f t))) d/\dcsAt (Rf (w.heap.size+4) w') w' (x.locks.map (Dc.ren (gR f t))) a/\thsAt (Rf (w.heap.size+4) w') w' (x.threads.map (Th.ren (gR f t))) c):=fun W d k a l c j hl R Q h1 h2 h3 =>
  (p_eachPartR vp_zr hok h1 h2 h3 ⟨zn_nil hl,R,Q,by omega,by omega,ht⟩ (vP_two W x d a c)).mono fun e w' h=>⟨h.1,_,h.2.zn,dcsAt_zn h.2.zn h1 (fun z m=>by simp [adr_app,m]),dcsAt_zn h.2.zn h2 (fun z m=>by simp [adr_app,m]),thsAt_zn h.2.zn h3 (fxP_of (gR_empty f t) hr) (fun z m=>by simp [adr_app,m])⟩
 obtain ⟨a1,R,a2,Q,a3,c3,rfl,_⟩:=hv;show Calls _ _ _ _ (fun e w'=>∃ d k a l c j,e=.returned (.agg #[.slice d x.shared.length k,.slice a x.locks.length l,.slice c x.threads.length j])/\dcsAt (Rf w.heap.size w') w' (x.shared.map (Dc.ren (gR f t))) d/\dcsAt (Rf w.heap.size w') w' (x.locks.map (Dc.ren (gR f t))) a/\thsAt (Rf w.heap.size w') w' (x.threads.map (Th.ren (gR f t))) c/\Below w.heap.size w w')
 unfold CpyP at B;generalize x.shared.length=n1 at *;generalize x.locks.length=n2 at *;generalize x.threads.length=n3 at *;have D:=Hd (b4_new w f t #[.slice a1 n1 R,.slice a2 n2 Q,.slice a3 n3 c3] zPg);obtain ⟨W0,y⟩:=Qx ((((w.alloc (.cells #[.slice a1 n1 R,.slice a2 n2 Q,.slice a3 n3 c3] 26)).alloc (.cells #[.string f] 9)).alloc (.cells #[.string t] 9)).alloc (.cells zPg 26));rw [<- y] at D;have V:=Hd y;clear y hf hok hr;go_enter Tryz.func29,Tryz.ntmps29;go_upto_region 1 with (fail)
 rw [show (#[.slice none 0 0,.slice none 0 0,.slice none 0 0]:Array Value)=zPg from rfl,<- V.out]
 have O1:=D.out.own0;go_wp2_with (refine ld rowPg rfl rfl rfl O1 rfl ?_);go_at_call 64;refine (B.out _ D.out.bel).mono ?_;rintro e p ⟨d,k,a,l,c,j,rfl,e1,e2,e3,g⟩;have K:=Hd (b4_below D.out g);have aa:=D.out.own3.lt;have N:w.heap.size+4<=p.heap.size:=by have:=g.size;omega
 have T:=Own.new p 26 #[.slice none 0 0,.slice none 0 0,.slice none 0 0];have B3:Below p.heap.size p ((p.alloc (.cells #[.slice none 0 0,.slice none 0 0,.slice none 0 0] 26)).setRow p.heap.size #[.slice d n1 k,.slice a n2 l,.slice c n3 j]):=Below.of_row ((Below.refl _ p).alloc (Nat.le_refl _) _) (Nat.le_refl _) _;have A:=T.row #[.slice d n1 k,.slice a n2 l,.slice c n3 j];have i:=Hd (b4_below K.out B3);obtain ⟨q,C⟩:=Qx ((p.alloc (.cells #[.slice none 0 0,.slice none 0 0,.slice none 0 0] 26)).setRow p.heap.size #[.slice d n1 k,.slice a n2 l,.slice c n3 j]);rw [<- C] at B3 A i;have M:=B3;have F:=Hd C;have P:Hid (dcsAt (Rz (w.heap.size+4) q) q x.shared d):=dcsAt_stays (Stays.refl _ _) (fun b g=>rz_of (B':=w.heap.size+4) (Nat.le_refl _) ⟨⟨g.1.1,g.1.2⟩,g.2⟩) (dcsAt_in (dcsAt_rf e1 (chg_below B3) (by omega)))
 have J:Hid (dcsAt (Rz (w.heap.size+4) q) q x.locks a):=dcsAt_stays (Stays.refl _ _) (fun b g=>rz_of (B':=w.heap.size+4) (Nat.le_refl _) ⟨⟨g.1.1,g.1.2⟩,g.2⟩) (dcsAt_in (dcsAt_rf e2 (chg_below B3) (by omega)))
 have O:Hid (thsAt (Rz (w.heap.size+4) q) q x.threads c):=thsAt_stays (Stays.refl _ _) (fun b g=>rz_of (B':=w.heap.size+4) (Nat.le_refl _) ⟨⟨g.1.1,g.1.2⟩,g.2⟩) (thsAt_in (thsAt_rf e3 (chg_below B3) (by omega)))
 have HG:=Hd A;have X:Hid (w.heap.size+4<=q.heap.size):=Nat.le_trans N M.size;have G:Hid (q.cell? ⟨w.heap.size+1,0,none⟩=some (.string f)):=by rw [Hid,cell_of_row _ _ 0 _ _ _ i.out.own1];rfl
 have I:Hid (q.cell? ⟨w.heap.size+2,0,none⟩=some (.string t)):=by rw [Hid,cell_of_row _ _ 0 _ _ _ i.out.own2];rfl
 clear C g e1 e2 e3 D K O1 B3 M B aa N A;go_upto_region 2 with (refine st rowPg rfl rfl T rfl rfl (by rfl) (by rfl) (by kernel_rfl) ?_)
 rw [<- F.out];clear F T;have A:=HG.out;go_wp2_with (refine ld rowPg rfl rfl rfl A rfl ?_);go_at_call 59;refine (E.out _ _ _ _ _ _ _ X.out G.out I.out P.out J.out O.out).mono ?_;rintro e U ⟨rfl,L,m,k1,k2,k3⟩;have H:∀ (o:Nat) (n:ByteArray),(#[.slice d n1 k,.slice a n2 l,.slice c n3 j]:Array Value)[o]? ≠ some (.string n):=fun o n h=>by
  match o,h with
  | 0,h=>cases h
  | 1,h=>cases h
  | 2,h=>cases h
  | o+3,h=>simp at h
 have r:∀ (o:Nat) (n:ByteArray),(zPg:Array Value)[o]? ≠ some (.string n):=fun o n h=>by
  match o,h with
  | 0,h=>cases h
  | 1,h=>cases h
  | 2,h=>cases h
  | o+3,h=>simp [zPg] at h
 have P4:=own_zn m A H;have Q4:=own_zn m i.out.own3 r;have S:=Hd (i.out.bel.trans (m.below.mono (by omega)))
 have Z:=Hd k1;have Y:=Hd k2;have ab:=Hd k3;clear H r m k1 k2 k3 P J O i A HG E G I;go_wp2_with (first | (refine ld rowPg rfl rfl rfl P4 rfl ?_) | (refine st rowPg rfl rfl Q4 rfl rfl (by rfl) (by rfl) (by kernel_rfl) ?_))
 refine p_ret rowPg rfl (Q4.row #[.slice d n1 k,.slice a n2 l,.slice c n3 j]) rfl rfl rfl ?_;have s:Chg (w.heap.size+4) U (U.setRow (w.heap.size+3) #[.slice d n1 k,.slice a n2 l,.slice c n3 j]):=chg_setRow U _ (by omega)
 exact ⟨d,k,a,l,c,j,rfl,dcsAt_rf Z.out s (by omega),dcsAt_rf Y.out s (by omega),thsAt_rf ab.out s (by omega),Below.of_row S.out (by omega) _⟩
end Go.Proofs.YtbgfkdiihnidaaaGreatDoor

/- The proof, part 26: texts that belong together, in one. -/
import Derived.Test.YtkheldgmpgefiaaGreatDoorRAY
set_option maxRecDepth 100000
set_option maxHeartbeats 20000000
namespace Go.Proofs.YtkheldgmpgefiaaGreatDoor
open Go.RowKit
set_option linter.unusedVariables false
mutual
def Ex.ren (g:ByteArray→ByteArray):Ex→Ex
 | .mk k o w n ks p=>.mk k o w (if k=2 then g n else n) (exsRen g ks) p
def exsRen (g:ByteArray→ByteArray):List Ex→List Ex
 | []=>[]
 | e::r=>e.ren g::exsRen g r
end
mutual
def St.ren (g:ByteArray→ByteArray):St→St
 | .mk k n o e b l p=>.mk k (g n) (g o) (exsRen g e) (stsRen g b) (stsRen g l) p
def stsRen (g:ByteArray→ByteArray):List St→List St
 | []=>[]
 | e::r=>e.ren g::stsRen g r
end
def Dc.ren (g:ByteArray→ByteArray) (d:Dc):Dc:=⟨g d.name,d.wd,d.pos⟩
def Th.ren (g:ByteArray→ByteArray) (t:Th):Th:=⟨g t.name,t.locals.map (Dc.ren g),stsRen g t.body,t.pos⟩
def Pg.ren (g:ByteArray→ByteArray) (p:Pg):Pg:=⟨p.shared.map (Dc.ren g),p.locks.map (Dc.ren g),p.threads.map (Th.ren g)⟩
mutual
def nmE:Ex→List ByteArray
 | .mk k _ _ n ks _=>(if k=2 then [n] else [])++nmEs ks
def nmEs:List Ex→List ByteArray
 | []=>[]
 | e::r=>nmE e++nmEs r
end
mutual
def nmS:St→List ByteArray
 | .mk _ n o e b l _=>n::o::(nmEs e++(nmSs b++nmSs l))
def nmSs:List St→List ByteArray
 | []=>[]
 | e::r=>nmS e++nmSs r
end
def nmDs (l:List Dc):List ByteArray:=l.map Dc.name
def nmT (t:Th):List ByteArray:=t.name::(nmDs t.locals++nmSs t.body)
def nmTs (l:List Th):List ByteArray:=l.flatMap nmT
def nmP (p:Pg):List ByteArray:=nmDs p.shared++nmDs p.locks++nmTs p.threads
theorem exsRen_map (g:ByteArray→ByteArray):∀ l:List Ex,exsRen g l=l.map (Ex.ren g)
 | []=>rfl
 | x::r=>by rw [exsRen,exsRen_map g r];rfl
theorem stsRen_map (g:ByteArray→ByteArray):∀ l:List St,stsRen g l=l.map (St.ren g)
 | []=>rfl
 | x::r=>by rw [stsRen,stsRen_map g r];rfl
theorem exsRen_len (g:ByteArray→ByteArray) (l:List Ex):(exsRen g l).length=l.length:=by rw [exsRen_map,List.length_map]
theorem stsRen_len (g:ByteArray→ByteArray) (l:List St):(stsRen g l).length=l.length:=by rw [stsRen_map,List.length_map]
section
variable {g h:ByteArray→ByteArray}
theorem exsRen_ren:∀ l:List Ex,exsRen h (exsRen g l)=exsRen (fun s=>h (g s)) l:=by
 intro l
 induction l using Exs.ind with
 | h0=>rfl
 | h1 k o wd nm ks p r ih1 ih2 =>
   simp only [exsRen,Ex.ren,ih1,ih2]
   by_cases e:k=2 <;> simp [e]
theorem stsRen_ren:∀ l:List St,stsRen h (stsRen g l)=stsRen (fun s=>h (g s)) l:=by
 intro l
 induction l using Sts.ind with
 | h0=>rfl
 | h1 k n o e b l p r ih1 ih2 ih3=>simp only [stsRen,St.ren,ih1,ih2,ih3,exsRen_ren]
theorem dcsRen_ren (l:List Dc):(l.map (Dc.ren g)).map (Dc.ren h)=l.map (Dc.ren fun s=>h (g s)):=by rw [List.map_map];rfl
theorem pgRen_ren (x:Pg):(x.ren g).ren h=x.ren (fun s=>h (g s)):=by
 simp only [Pg.ren,List.map_map,Pg.mk.injEq]
 refine ⟨rfl,rfl,?_⟩
 congr 1
 funext t
 simp only [Function.comp,Th.ren,dcsRen_ren,stsRen_ren]
theorem exsRen_id:∀ l:List Ex,(∀ s∈nmEs l,g s=s)→exsRen g l=l:=by
 intro l
 induction l using Exs.ind with
 | h0=>intro _;rfl
 | h1 k o wd nm ks p r ih1 ih2 =>
   intro hs
   simp only [nmEs,nmE] at hs
   simp only [exsRen,Ex.ren]
   rw [ih1 (fun s hm=>hs s (by simp [hm])),ih2 (fun s hm=>hs s (by simp [hm]))]
   by_cases e:k=2
   · rw [if_pos e,hs nm (by simp [e])]
   · rw [if_neg e]
theorem stsRen_id:∀ l:List St,(∀ s∈nmSs l,g s=s)→stsRen g l=l:=by
 intro l
 induction l using Sts.ind with
 | h0=>intro _;rfl
 | h1 k n o e b l p r ih1 ih2 ih3 =>
   intro hs
   simp only [nmSs,nmS] at hs
   simp only [stsRen,St.ren]
   rw [ih1 (fun s hm=>hs s (by simp [hm])),ih2 (fun s hm=>hs s (by simp [hm])),ih3 (fun s hm=>hs s (by simp [hm])),exsRen_id e (fun s hm=>hs s (by simp [hm])),hs n (by simp),hs o (by simp)]
theorem dcsRen_id (l:List Dc) (hs:∀ s∈nmDs l,g s=s):l.map (Dc.ren g)=l:=by
 conv=>rhs;rw [← List.map_id l]
 refine List.map_congr_left fun d hd=>?_
 show (⟨g d.name,d.wd,d.pos⟩:Dc)=d
 rw [hs d.name (List.mem_map.2 ⟨d,hd,rfl⟩)]
theorem pgRen_id {x:Pg} (hs:∀ s∈nmP x,g s=s):x.ren g=x:=by
 have h1:=dcsRen_id x.shared (fun s hm=>hs s (by simp [nmP,hm]))
 have h2:=dcsRen_id x.locks (fun s hm=>hs s (by simp [nmP,hm]))
 have h3:x.threads.map (Th.ren g)=x.threads:=by
  conv=>rhs;rw [← List.map_id x.threads]
  refine List.map_congr_left fun t ht=>?_
  have hm:∀ s∈nmT t,g s=s:=fun s hm=>hs s (by simp only [nmP,List.mem_append];exact .inr (List.mem_flatMap.2 ⟨t,ht,hm⟩))
  show (⟨g t.name,t.locals.map (Dc.ren g),stsRen g t.body,t.pos⟩:Th)=t
  rw [hm t.name (by simp [nmT]),dcsRen_id t.locals (fun s h=>hm s (by simp [nmT,h])),stsRen_id t.body (fun s h=>hm s (by simp [nmT,h]))]
 simp only [Pg.ren,h1,h2,h3]
theorem nmEs_ren:∀ l:List Ex,nmEs (exsRen g l)=(nmEs l).map g:=by
 intro l
 induction l using Exs.ind with
 | h0=>rfl
 | h1 k o wd nm ks p r ih1 ih2 =>
   simp only [exsRen,Ex.ren,nmEs,nmE,ih1,ih2,List.map_append]
   by_cases e:k=2 <;> simp [e]
theorem nmSs_ren:∀ l:List St,nmSs (stsRen g l)=(nmSs l).map g:=by
 intro l
 induction l using Sts.ind with
 | h0=>rfl
 | h1 k n o e b l p r ih1 ih2 ih3=>simp only [stsRen,St.ren,nmSs,nmS,ih1,ih2,ih3,nmEs_ren,List.map_append,List.map_cons]
theorem nmDs_ren (l:List Dc):nmDs (l.map (Dc.ren g))=(nmDs l).map g:=by simp [nmDs,Dc.ren,Function.comp_def]
theorem nmP_ren (x:Pg):nmP (x.ren g)=(nmP x).map g:=by
 have h:∀ t:Th,nmT (t.ren g)=(nmT t).map g:=fun t=>by simp only [nmT,Th.ren,nmDs_ren,nmSs_ren,List.map_cons,List.map_append]
 have h2:∀ l:List Th,nmTs (l.map (Th.ren g))=(nmTs l).map g:=by
  intro l
  induction l with
  | nil=>rfl
  | cons t r ih =>
    simp only [nmTs] at ih
    simp only [nmTs,List.map_cons,List.flatMap_cons,List.map_append,h,ih]
 simp only [nmP,Pg.ren,nmDs_ren,List.map_append,h2]
theorem bytes_same {a b:ByteArray} (h:(a.data.toList==b.data.toList)=true):a=b:=by
 have h:=eq_of_beq h
 cases a with
 | mk a => cases b with
   | mk b=>congr 1;exact Array.toList_inj.1 h
theorem same_exsRen:∀ l:List Ex,sameEs l (exsRen g l)=true→∀ s∈nmEs l,g s=s:=by
 intro l
 induction l using Exs.ind with
 | h0=>intro _ s hs;cases hs
 | h1 k o wd nm ks p r ih1 ih2 =>
   intro h s hs
   simp only [exsRen,Ex.ren,sameEs,sameE,Bool.and_eq_true] at h
   simp only [nmEs,nmE,List.mem_append] at hs
   rcases hs with (hs | hs) | hs
   · by_cases e : k = 2
     · rw [if_pos e] at hs h
       obtain rfl:s=nm:=by simpa using hs
       exact (bytes_same h.1.1.2).symm
     · rw [if_neg e] at hs;cases hs
   · exact ih1 h.1.2 s hs
   · exact ih2 h.2 s hs
theorem same_stsRen:∀ l:List St,sameSs l (stsRen g l)=true→∀ s∈nmSs l,g s=s:=by
 intro l
 induction l using Sts.ind with
 | h0=>intro _ s hs;cases hs
 | h1 k n o e b l p r ih1 ih2 ih3 =>
   intro h s hs
   simp only [stsRen,St.ren,sameSs,sameS,Bool.and_eq_true] at h
   obtain ⟨⟨⟨⟨⟨⟨h1,h2⟩,h3⟩,h4⟩,h5⟩,h6⟩,h7⟩:=h
   simp only [nmSs,nmS,List.mem_append,List.mem_cons] at hs
   rcases hs with (hs | hs | hs | hs | hs) | hs
   · subst hs;exact (bytes_same h2).symm
   · subst hs;exact (bytes_same h3).symm
   · exact same_exsRen e h4 s hs
   · exact ih1 h5 s hs
   · exact ih2 h6 s hs
   · exact ih3 h7 s hs
theorem same_dcsRen:∀ l:List Dc,sameBy sameD l (l.map (Dc.ren g))=true→∀ s∈nmDs l,g s=s
 | [],_,s,hs=>by cases hs
 | d :: r, h, s, hs => by
   simp only [List.map_cons,sameBy,sameD,Dc.ren,Bool.and_eq_true] at h
   simp only [nmDs,List.map_cons,List.mem_cons] at hs
   rcases hs with hs | hs
   · subst hs;exact (bytes_same h.1.1).symm
   · exact same_dcsRen r h.2 s hs
theorem same_thsRen:∀ l:List Th,sameBy sameT l (l.map (Th.ren g))=true→∀ s∈nmTs l,g s=s
 | [],_,s,hs=>by cases hs
 | t :: r, h, s, hs => by
   simp only [List.map_cons,sameBy,sameT,Th.ren,Bool.and_eq_true] at h
   simp only [nmTs,List.flatMap_cons,List.mem_append,nmT,List.mem_cons] at hs
   rcases hs with (hs | hs | hs) | hs
   · subst hs;exact (bytes_same h.1.1.1).symm
   · exact same_dcsRen _ h.1.1.2 s hs
   · exact same_stsRen _ h.1.2 s hs
   · exact same_thsRen r h.2 s hs
theorem same_pgRen {x:Pg} (h:samePg x (x.ren g)=true):∀ s∈nmP x,g s=s:=by
 simp only [samePg,Pg.ren,Bool.and_eq_true] at h
 intro s hs
 simp only [nmP,List.mem_append] at hs
 rcases hs with (hs | hs) | hs
 · exact same_dcsRen _ h.1.1 s hs
 · exact same_dcsRen _ h.1.2 s hs
 · exact same_thsRen _ h.2 s hs
theorem okEs_ren:∀ l:List Ex,okEs l→okEs (exsRen g l):=by
 intro l
 induction l using Exs.ind with
 | h0=>intro _;trivial
 | h1 k o wd nm ks p r ih1 ih2 =>
   intro h
   exact ⟨⟨by rw [exsRen_len];exact h.1.1,ih1 h.1.2⟩,ih2 h.2⟩
theorem okSs_ren:∀ l:List St,okSs l→okSs (stsRen g l):=by
 intro l
 induction l using Sts.ind with
 | h0=>intro _;trivial
 | h1 k n o e b l p r ih1 ih2 ih3 =>
   intro h
   obtain ⟨⟨⟨e1,e2⟩,⟨b1,b2⟩,l1,l2⟩,hr⟩:=h
   exact ⟨⟨⟨by rw [exsRen_len];exact e1,okEs_ren _ e2⟩,⟨by rw [stsRen_len];exact b1,ih1 b2⟩,by rw [stsRen_len];exact l1,ih2 l2⟩,ih3 hr⟩
theorem okP_ren {x:Pg} (h:okP x):okP (x.ren g):=by
 obtain ⟨h1,h2,h3,h4⟩:=h
 refine ⟨by simpa [Pg.ren] using h1,by simpa [Pg.ren] using h2,by simpa [Pg.ren] using h3,fun t ht=>?_⟩
 obtain ⟨u,hu,rfl⟩:=List.mem_map.1 (show t∈x.threads.map (Th.ren g) from ht)
 obtain ⟨k1,k2,k3⟩:=h4 u hu
 exact ⟨by simpa [Th.ren] using k1,by simp only [Th.ren];rw [stsRen_len];exact k2,okSs_ren _ k3⟩
theorem fitEs_ren (hg:∀ s,nmOk s→nmOk (g s)):∀ l:List Ex,fitEs l→fitEs (exsRen g l):=by
 intro l
 induction l using Exs.ind with
 | h0=>intro _;trivial
 | h1 k o wd nm ks p r ih1 ih2 =>
   intro h
   refine ⟨⟨?_,by rw [exsRen_len];exact h.1.2.1,ih1 h.1.2.2⟩,ih2 h.2⟩
   split
   · exact hg _ h.1.1
   · exact h.1.1
theorem fitSs_ren (hg:∀ s,nmOk s→nmOk (g s)):∀ l:List St,fitSs l→fitSs (stsRen g l):=by
 intro l
 induction l using Sts.ind with
 | h0=>intro _;trivial
 | h1 k n o e b l p r ih1 ih2 ih3 =>
   intro h
   obtain ⟨⟨n1,n2,⟨e1,e2⟩,⟨b1,b2⟩,l1,l2⟩,hr⟩:=h
   exact ⟨⟨hg _ n1,hg _ n2,⟨by rw [exsRen_len];exact e1,fitEs_ren hg _ e2⟩,⟨by rw [stsRen_len];exact b1,ih1 b2⟩,by rw [stsRen_len];exact l1,ih2 l2⟩,ih3 hr⟩
theorem fitDs_ren (hg:∀ s,nmOk s→nmOk (g s)) {l:List Dc} (h:fitDs l):fitDs (l.map (Dc.ren g)):=fun d hd=>by
 obtain ⟨u,hu,rfl⟩:=List.mem_map.1 hd
 exact hg _ (h u hu)
theorem fitP_ren (hg:∀ s,nmOk s→nmOk (g s)) {x:Pg} (h:fitP x):fitP (x.ren g):=by
 obtain ⟨⟨h1,h2⟩,⟨h3,h4⟩,h5,h6⟩:=h
 refine ⟨⟨by simpa [Pg.ren] using h1,fitDs_ren hg h2⟩,⟨by simpa [Pg.ren] using h3,fitDs_ren hg h4⟩,by simpa [Pg.ren] using h5,fun t ht=>?_⟩
 obtain ⟨u,hu,rfl⟩:=List.mem_map.1 (show t∈x.threads.map (Th.ren g) from ht)
 obtain ⟨k0,⟨k1,k2⟩,k3,k4⟩:=h6 u hu
 exact ⟨hg _ k0,⟨by simpa [Th.ren] using k1,fitDs_ren hg k2⟩,by simp only [Th.ren];rw [stsRen_len];exact k3,fitSs_ren hg _ k4⟩
theorem rgEs_ren:∀ l:List Ex,rgEs l→rgEs (exsRen g l):=by
 intro l
 induction l using Exs.ind with
 | h0=>intro _;trivial
 | h1 k o wd nm ks p r ih1 ih2 =>
   intro h
   exact ⟨⟨h.1.1,h.1.2.1,h.1.2.2.1,ih1 h.1.2.2.2⟩,ih2 h.2⟩
theorem rgSs_ren:∀ l:List St,rgSs l→rgSs (stsRen g l):=by
 intro l
 induction l using Sts.ind with
 | h0=>intro _;trivial
 | h1 k n o e b l p r ih1 ih2 ih3 =>
   intro h
   exact ⟨⟨h.1.1,rgEs_ren _ h.1.2.1,ih1 h.1.2.2.1,ih2 h.1.2.2.2⟩,ih3 h.2⟩
theorem prOk_ren {x:Pg} (h:PrOk x):PrOk (x.ren g):=by
 obtain ⟨h1,h2,h3,h4,h5,h6⟩:=h
 refine ⟨okP_ren h1,fun t ht=>?_,fun d hd=>?_,by simpa [Pg.ren] using h4,by simpa [Pg.ren] using h5,fun t ht=>?_⟩
 · obtain ⟨u, hu, rfl⟩ := List.mem_map.1 (show t ∈ x.threads.map (Th.ren g) from ht)
   exact rgSs_ren _ (h2 u hu)
 · obtain ⟨u, hu, rfl⟩ := List.mem_map.1 (show d ∈ x.shared.map (Dc.ren g) from hd)
   exact h3 u hu
 · obtain ⟨u, hu, rfl⟩ := List.mem_map.1 (show t ∈ x.threads.map (Th.ren g) from ht)
   simpa [Th.ren] using h6 u hu
theorem kindsE_ren:∀ l:List Ex,(exsRen g l).map (fun e=>(e.kind,e.op))=l.map (fun e=>(e.kind,e.op))
 | []=>rfl
 | .mk k o wd nm ks p::r=>by simp only [exsRen,List.map_cons,kindsE_ren r];rfl
theorem nmB_ren (hg:∀ s,nameB s=true→nameB (g s)=true) (h0:g ⟨#[]⟩=⟨#[]⟩) {n:ByteArray} {b:Bool} (h:nmB n b=true):nmB (g n) b=true:=by
 cases b with
 | true=>exact hg n h
 | false =>
   have:n=⟨#[]⟩:=bytes_same h
   subst this
   rw [h0];rfl
theorem kid1_mono (ks:List Ex):∀ (fs fs':List (Int→Bool)) (d:Int),(fs'.length=fs.length)→(∀ (i:Nat) (f f':Int→Bool) (d:Int),fs[i]? = some f→fs'[i]? = some f'→f d=true→f' d=true)→kid1 ks fs d=true→kid1 ks fs' d=true:=by
 intro fs fs' d hl hm h
 match ks,fs,fs',hl with
 | [x],[f],[f'],_=>exact hm 0 f f' _ rfl rfl h
 | [],_,_,_=>cases h
 | [_],[],_,_=>cases h
 | [_],_::_::_,_,_=>cases h
 | _::_::_,_,_,_=>simp [kid1] at h
theorem kid2_mono (o:Int) (ks:List Ex):∀ (fs fs':List (Int→Bool)) (d:Int),(fs'.length=fs.length)→(∀ (i:Nat) (f f':Int→Bool) (d:Int),fs[i]? = some f→fs'[i]? = some f'→f d=true→f' d=true)→kid2 o ks fs d=true→kid2 o ks fs' d=true:=by
 intro fs fs' d hl hm h
 match ks,fs,fs',hl with
 | [x, y], [f, f2], [f', f2'], _ =>
   simp only [kid2,Bool.and_eq_true] at h ⊢
   exact ⟨hm 0 f f' _ rfl rfl h.1,hm 1 f2 f2' _ rfl rfl h.2⟩
 | [],_,_,_=>simp [kid2] at h
 | [_],_,_,_=>simp [kid2] at h
 | [_,_],[],_,_=>simp [kid2] at h
 | [_,_],[_],_,_=>simp [kid2] at h
 | [_,_],_::_::_::_,_,_=>simp [kid2] at h
 | _::_::_::_,_,_,_=>simp [kid2] at h
theorem rEs_len:∀ l:List Ex,(rEs l).length=l.length
 | []=>rfl
 | x::r=>by simp [rEs,rEs_len r]
theorem rEs_ren (hg:∀ s,nameB s=true→nameB (g s)=true) (h0:g ⟨#[]⟩=⟨#[]⟩):∀ l:List Ex,∀ (i:Nat) (f f':Int→Bool) (d:Int),(rEs l)[i]? = some f→(rEs (exsRen g l))[i]? = some f'→f d=true→f' d=true:=by
 intro l
 induction l using Exs.ind with
 | h0=>intro i f f' d h;simp [rEs] at h
 | h1 k o wd nm ks p r ih1 ih2 =>
   intro i f f' d hf hf' h
   cases i with
   | succ i=>exact ih2 i f f' d (by simpa [rEs] using hf) (by simpa [rEs,exsRen] using hf') h
   | zero =>
     obtain rfl:rE (.mk k o wd nm ks p)=f:=by simpa [rEs] using hf
     obtain rfl:rE (Ex.ren g (.mk k o wd nm ks p))=f':=by simpa [rEs,exsRen] using hf'
     simp only [Ex.ren,rE,Bool.and_eq_true] at h ⊢
     obtain ⟨h1,h2,h3,h4⟩:=h
     refine ⟨h1,h2,?_,?_⟩
     · split
       · exact nmB_ren hg h0 h3
       · exact h3
     · have hlen : (rEs (exsRen g ks)).length = (rEs ks).length := by rw [rEs_len, rEs_len, exsRen_len]
       have he:(exsRen g ks).isEmpty=ks.isEmpty:=by cases ks <;> rfl
       unfold kB at h4 ⊢
       split
       · rename_i e;rw [if_pos e] at h4;rw [he];exact h4
       · rename_i e; rw [if_neg e] at h4
         split
         · rename_i e3; rw [if_pos e3] at h4
           simp only [Bool.and_eq_true] at h4 ⊢
           refine ⟨h4.1,?_⟩
           rw [kid1_bare ks (exsRen g ks) _ _ (kindsE_ren ks)]
           exact kid1_mono ks _ _ _ hlen ih1 h4.2
         · rename_i e3; rw [if_neg e3] at h4
           split
           · rename_i e4; rw [if_pos e4] at h4
             simp only [Bool.and_eq_true] at h4 ⊢
             refine ⟨h4.1,?_⟩
             rw [kid2_bare o ks (exsRen g ks) _ _ (kindsE_ren ks)]
             exact kid2_mono o ks _ _ _ hlen ih1 h4.2
           · rename_i e4;rw [if_neg e4] at h4;exact h4
theorem allE_ren (hg:∀ s,nameB s=true→nameB (g s)=true) (h0:g ⟨#[]⟩=⟨#[]⟩) (l:List Ex) (h:allE l=true):allE (exsRen g l)=true:=by
 have hall:∀ l:List Ex,allE l=(rEs l).all (fun f=>f 0):=by
  intro l
  unfold allE
  induction l with
  | nil=>rfl
  | cons x r ih=>simp only [List.all_cons,rEs,ih]
 rw [hall] at h ⊢
 rw [List.all_eq_true] at h ⊢
 intro f' hf'
 obtain ⟨i,hi⟩:=List.getElem?_of_mem hf'
 have hlt:=(List.getElem?_eq_some_iff.1 hi).1
 rw [rEs_len,exsRen_len] at hlt
 have hr:(rEs l)[i]? = some ((rEs l)[i]'(by rw [rEs_len];exact hlt)):=List.getElem?_eq_getElem _
 exact rEs_ren hg h0 l i _ f' 0 hr hi (h _ (List.mem_of_getElem? hr))
theorem rAll_ren (hg:∀ s,nameB s=true→nameB (g s)=true) (h0:g ⟨#[]⟩=⟨#[]⟩):∀ (l:List St) (d:Int),rAll l d=true→rAll (stsRen g l) d=true:=by
 intro l
 induction l using Sts.ind with
 | h0=>intro d _;rfl
 | h1 k n o e b l p r ih1 ih2 ih3 =>
   intro d h
   simp only [stsRen,rAll,St.ren,rS,exsRen_len,stsRen_len,Bool.and_eq_true,Bool.or_eq_true] at h ⊢
   obtain ⟨⟨a1,a2,a3,a4,a5,a6,a7,a8,a9,a10⟩,hr⟩:=h
   exact ⟨⟨a1,a2,nmB_ren hg h0 a3,nmB_ren hg h0 a4,a5,a6,a7,allE_ren hg h0 _ a8,a9.imp id (fun h=>⟨h.1,ih1 _ h.2⟩),a10.imp id (fun h=>⟨h.1,ih2 _ h.2⟩)⟩,ih3 d hr⟩
theorem bareB_ren (hg:∀ s,nameB s=true→nameB (g s)=true) {l:List Dc} (h:bareB l=true):bareB (l.map (Dc.ren g))=true:=by
 unfold bareB at h ⊢
 rw [List.all_map,List.all_eq_true]
 intro d hd
 have:=List.all_eq_true.1 h d hd
 simp only [Function.comp,Dc.ren,Bool.and_eq_true] at this ⊢
 exact ⟨hg _ this.1,this.2⟩
theorem rP_ren (hg:∀ s,nameB s=true→nameB (g s)=true) (h0:g ⟨#[]⟩=⟨#[]⟩) {x:Pg} (h:rP x=true):rP (x.ren g)=true:=by
 simp only [rP,Pg.ren,Bool.and_eq_true] at h ⊢
 obtain ⟨h1,h2,h3⟩:=h
 refine ⟨?_,bareB_ren hg h2,?_⟩
 · unfold sharedB at h1 ⊢
   rw [List.all_map,List.all_eq_true]
   intro d hd
   have:=List.all_eq_true.1 h1 d hd
   simp only [Function.comp,Dc.ren,Bool.and_eq_true] at this ⊢
   exact ⟨hg _ this.1,this.2⟩
 · rw [List.all_map, List.all_eq_true]
   intro t ht
   have:=List.all_eq_true.1 h3 t ht
   simp only [Function.comp,thB,Th.ren,rB,Bool.and_eq_true] at this ⊢
   exact ⟨hg _ this.1,bareB_ren hg this.2.1,this.2.2.1,rAll_ren hg h0 _ _ this.2.2.2⟩
end
def gR (f t s:ByteArray):ByteArray:=if s=f∧s≠⟨#[]⟩ then t else s
theorem gR_empty (f t:ByteArray):gR f t ⟨#[]⟩=⟨#[]⟩:=if_neg (fun h=>h.2 rfl)
theorem gR_self {f t:ByteArray} (hf:f≠⟨#[]⟩):gR f t f=t:=if_pos ⟨rfl,hf⟩
theorem gR_other {f t s:ByteArray} (h:s≠f):gR f t s=s:=if_neg (fun k=>h k.1)
theorem gR_name {f t:ByteArray} (ht:nameB t=true) {s:ByteArray} (hs:nameB s=true):nameB (gR f t s)=true:=by
 unfold gR;split
 · exact ht
 · exact hs
theorem gR_back {f t s:ByteArray} (hs:s≠t) (ht:t≠⟨#[]⟩):gR t f (gR f t s)=s:=by
 by_cases h:s=f∧s≠⟨#[]⟩
 · rw [show gR f t s=t from if_pos h,gR_self ht,h.1]
 · rw [show gR f t s=s from if_neg h,gR_other hs]
theorem ren_back {f t:ByteArray} {x:Pg} (ht:t≠⟨#[]⟩) (h:t ∉ nmP x):(x.ren (gR f t)).ren (gR t f)=x:=by
 rw [pgRen_ren]
 exact pgRen_id fun s hs=>gR_back (fun e=>h (e ▸ hs)) ht
theorem ren_none {f t:ByteArray} {x:Pg} (h:f ∉ nmP x):x.ren (gR f t)=x:=pgRen_id fun s hs=>gR_other (fun e=>h (e ▸ hs))
theorem ren_differs {f t:ByteArray} {x:Pg} (hf:f≠⟨#[]⟩) (h:f∈nmP x) (hn:t≠f):samePg x (x.ren (gR f t))=false:=by
 cases e:samePg x (x.ren (gR f t)) with
 | false=>rfl
 | true =>
   have:=same_pgRen e f h
   rw [gR_self hf] at this
   exact absurd this hn
theorem name_nonempty {s:ByteArray} (h:nameB s=true):s≠⟨#[]⟩:=fun e=>by subst e;revert h;decide
theorem ren_gone {f t:ByteArray} {x:Pg} (hf:f≠⟨#[]⟩) (hn:t≠f):f ∉ nmP (x.ren (gR f t)):=by
 rw [nmP_ren]
 intro h
 obtain ⟨s,hs,e⟩:=List.mem_map.1 h
 by_cases h:s=f
 · subst h;rw [gR_self hf] at e;exact hn e
 · rw [gR_other h] at e;exact h e
open Go.RowKit
set_option linter.unusedVariables false
def NL (L:List ByteArray) (l:List (List UInt8)):Prop:=l.Pairwise (· < ·)∧∀ s,s∈l↔s≠[]∧(⟨s.toArray⟩:ByteArray)∈L
theorem lt_irr (a:List UInt8):¬ a<a:=List.lt_irrefl a
theorem nodup_of {l:List (List UInt8)} (h:l.Pairwise (· < ·)):l.Nodup:=h.imp fun hab e=>by
 subst e;exact lt_irr _ hab
theorem len_le {α:Type} [DecidableEq α]:∀ (l m:List α),l.Nodup→(∀ x∈l,x∈m)→l.length≤m.length
 | [],m,_,_=>Nat.zero_le _
 | x :: r, m, hn, hs => by
   have hx:=hs x (.head _)
   have hn':=List.nodup_cons.1 hn
   have h:=len_le r (m.erase x) hn'.2 fun y hy=>by
    have hne:y≠x:=fun e=>hn'.1 (e ▸ hy)
    exact (List.mem_erase_of_ne hne).2 (hs y (.tail _ hy))
   have hl:=List.length_erase_of_mem hx
   have hp:=List.length_pos_of_mem hx
   simp only [List.length_cons];omega
theorem bytes_back (b:ByteArray):(⟨b.data.toList.toArray⟩:ByteArray)=b:=by cases b;simp
theorem nl_len {f t:ByteArray} {L:List ByteArray} {l m:List (List UInt8)} (hl:NL L l) (hm:NL (L.map (gR f t)) m) (ht:t ∉ L) (ht0:t≠⟨#[]⟩):m.length=l.length:=by
 have key:∀ s:List UInt8,s∈l→(⟨s.toArray⟩:ByteArray)≠t:=fun s hs e=>ht (e ▸ ((hl.2 s).1 hs).2)
 have hne:∀ s:ByteArray,s≠⟨#[]⟩→gR f t s≠⟨#[]⟩:=fun s hs=>by
  unfold gR;split
  · exact ht0
  · exact hs
 have hinj:(l.map fun s=>(gR f t ⟨s.toArray⟩).data.toList).Nodup:=by
  rw [List.nodup_iff_pairwise_ne,List.pairwise_map]
  refine List.Pairwise.imp_of_mem ?_ (List.nodup_iff_pairwise_ne.1 (nodup_of hl.1))
  intro a b ha hb hab e
  have e2:gR f t ⟨a.toArray⟩=gR f t ⟨b.toArray⟩:=by rw [← bytes_back (gR f t ⟨a.toArray⟩),e,bytes_back]
  have h1:=gR_back (f:=f) (key a ha) ht0
  have h2:=gR_back (f:=f) (key b hb) ht0
  rw [e2,h2] at h1
  apply hab
  have h3:=congrArg (fun z:ByteArray=>z.data.toList) h1
  simpa using h3.symm
 apply Nat.le_antisymm
 · have := len_le m (l.map fun s => (gR f t ⟨s.toArray⟩).data.toList) (nodup_of hm.1) fun y hy => by
    obtain ⟨h0,h1⟩:=(hm.2 y).1 hy
    obtain ⟨b,hb,e⟩:=List.mem_map.1 h1
    have hb0:b.data.toList≠[]:=fun h=>by
     have:b=⟨#[]⟩:=by rw [← bytes_back b,h]
     rw [this,gR_empty] at e
     apply h0
     have:=congrArg (fun z:ByteArray=>z.data.toList) e
     simpa using this.symm
    refine List.mem_map.2 ⟨b.data.toList,(hl.2 _).2 ⟨hb0,by rw [bytes_back];exact hb⟩,?_⟩
    rw [bytes_back,e]
   simpa using this
 · have := len_le (l.map fun s => (gR f t ⟨s.toArray⟩).data.toList) m hinj fun y hy => by
    obtain ⟨s,hs,rfl⟩:=List.mem_map.1 hy
    obtain ⟨h0,h1⟩:=(hl.2 s).1 hs
    refine (hm.2 _).2 ⟨fun h=>?_,?_⟩
    · refine hne ⟨s.toArray⟩ (fun e => h0 ?_) (by rw [← bytes_back (gR f t ⟨s.toArray⟩), h])
      have:=congrArg (fun z:ByteArray=>z.data.toList) e
      simpa using this
    · rw [bytes_back];exact List.mem_map.2 ⟨_,h1,rfl⟩
   simpa using this
theorem nl_mem {L:List ByteArray} {l:List (List UInt8)} (hl:NL L l) {f:ByteArray} (hf:f≠⟨#[]⟩):f.data.toList∈l↔f∈L:=by
 rw [hl.2,bytes_back]
 refine ⟨fun h=>h.2,fun h=>⟨fun e=>hf (by rw [← bytes_back f,e]),h⟩⟩
theorem nl_empty {L:List ByteArray} {l:List (List UInt8)} (hl:NL L l):[] ∉ l:=fun h=>((hl.2 []).1 h).1 rfl
end Go.Proofs.YtkheldgmpgefiaaGreatDoor

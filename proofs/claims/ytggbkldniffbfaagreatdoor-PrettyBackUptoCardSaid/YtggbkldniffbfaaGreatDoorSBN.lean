/- The proof, part 40: texts that belong together, in one. -/
import Derived.Test.YtggbkldniffbfaaGreatDoorSBM
set_option maxRecDepth 100000
set_option maxHeartbeats 20000000
namespace Go.Proofs.YtggbkldniffbfaaGreatDoor
open Go.ChangeShapes Go.WideShapes Go.ChangeAt Go.WideMaps Go.WideElems Go.RowKit
set_option linter.unusedVariables false
set_option maxRecDepth 100000
def rgd (d:Dc):Prop:=-9223372036854775808≤d.wd∧d.wd≤9223372036854775807
def okgE (x:Ex):Prop:=okE x∧rgE x
def okgS (x:St):Prop:=okS x∧rgS x
def okgT (x:Th):Prop:=okT x∧rgT x
def okgP (x:Pg):Prop:=okP x∧rgP x∧rgD x.shared
theorem rgEs_all:∀ {l:List Ex},(∀ x∈l,rgE x)→rgEs l
 | [],_=>trivial
 | x::r,h=>⟨h x (.head _),rgEs_all fun y hy=>h y (.tail _ hy)⟩
theorem rgSs_all:∀ {l:List St},(∀ x∈l,rgS x)→rgSs l
 | [],_=>trivial
 | x::r,h=>⟨h x (.head _),rgSs_all fun y hy=>h y (.tail _ hy)⟩
section
variable {H:Type} {enc:TypeId × Value→H} {W:World} {sp:Nat→Bool} {held:Bool}
theorem one_intG {t:TypeId} {k:IntKind} {n:Nat} {v:Value} {z:DataW H × List MemPlace} (ht:Tryz.prog.underlying t=some (.int k)) (h:DataW.trod enc Tryz.prog W 0 sp held n t [v]=some z):∃ x,v=.int k x∧1≤Rows.uptoBulk z.1∧(Lit.int k x).wf=true:=by
 obtain ⟨x,hx,hz,hw⟩:=DataW.trod_int ht h
 exact ⟨x,by simpa using hx,by subst hz;simp [Rows.uptoBulk],hw⟩
theorem openG_dc (n:Nat) (cs:List Value) (y:DataW H × List MemPlace) (h:DataW.trod enc Tryz.prog W 0 sp held n 53 cs=some y):∃ x:Dc,(cs=dcCells x∧rgd x)∧bkD x≤Rows.uptoBulk y.1:=by
 obtain ⟨fs,hu,hk⟩:=fieldsD
 obtain ⟨m,ys,rfl,hl,hyl,hyd,hf⟩:=open_fieldsM hu hk rfl cellsD h
 obtain ⟨v0,t0,z0,c0,d0,u0,g0⟩:=hf 0 _ rfl
 obtain ⟨v1,t1,z1,c1,d1,u1,g1⟩:=hf 1 _ rfl
 obtain ⟨v2,t2,z2,c2,d2,u2,g2⟩:=hf 2 _ rfl
 obtain ⟨x0,rfl,m0⟩:=one_stringM u0 g0
 obtain ⟨x1,rfl,m1,f1⟩:=one_intG u1 g1
 obtain ⟨x2,rfl,m2,f2⟩:=one_intG u2 g2
 have hcs:cs=[.string x0,.int .i64 x1,.int .i64 x2]:=by
  apply List.ext_getElem?
  intro i
  match i with
  | 0=>exact c0
  | 1=>exact c1
  | 2=>exact c2
  | i+3=>rw [List.getElem?_eq_none (by rw [hl];simp),List.getElem?_eq_none (by simp)]
 have hys:ys=[z0,z1,z2]:=by
  apply List.ext_getElem?
  intro i
  match i with
  | 0=>exact d0
  | 1=>exact d1
  | 2=>exact d2
  | i+3=>rw [List.getElem?_eq_none (by rw [hyl];simp),List.getElem?_eq_none (by simp)]
 have hbk:Rows.uptoBulk y.1=Rows.uptoBulk z0.1+Rows.uptoBulk z1.1+Rows.uptoBulk z2.1+1:=by rw [hyd,hys];simp only [List.map_cons,List.map_nil,Rows.uptoBulk,Rows.uptoBulkAll];omega
 exact ⟨⟨x0,x1,x2⟩,⟨hcs,i64_bd f1⟩,by rw [hbk];simp only [bkD];omega⟩
theorem openG_ex:∀ (n:Nat) (cs:List Value) (y:DataW H × List MemPlace),DataW.trod enc Tryz.prog W 0 sp held n 30 cs=some y→∃ x:Ex,okgE x∧exV (fun _=>True) W x cs∧bkE x≤Rows.uptoBulk y.1:=by
 intro n
 induction n using Nat.strongRecOn with
 | ind n ih =>
 intro cs y h
 obtain ⟨fs,hu,hk⟩:=fieldsE
 obtain ⟨m,ys,rfl,hl,hyl,hyd,hf⟩:=open_fieldsM hu hk rfl cellsE h
 obtain ⟨v0,t0,z0,c0,d0,u0,g0⟩:=hf 0 _ rfl
 obtain ⟨v1,t1,z1,c1,d1,u1,g1⟩:=hf 1 _ rfl
 obtain ⟨v2,t2,z2,c2,d2,u2,g2⟩:=hf 2 _ rfl
 obtain ⟨v3,t3,z3,c3,d3,u3,g3⟩:=hf 3 _ rfl
 obtain ⟨v4,t4,z4,c4,d4,u4,g4⟩:=hf 4 _ rfl
 obtain ⟨v5,t5,z5,c5,d5,u5,g5⟩:=hf 5 _ rfl
 obtain ⟨x0,rfl,m0,f0⟩:=one_intG u0 g0
 obtain ⟨x1,rfl,m1,f1⟩:=one_intG u1 g1
 obtain ⟨x2,rfl,m2,f2⟩:=one_intG u2 g2
 obtain ⟨x3,rfl,m3⟩:=one_stringM u3 g3
 obtain ⟨x4,a4,cap4,rfl,b4,m4,e4⟩:=open_listM u4 cellsE (by decide) (fun (x:Ex) cs=>okgE x∧exV (fun _=>True) W x cs) bkE g4 (fun k cs y hk h=>by obtain ⟨x,h1,h2,h3⟩:=ih k (by omega) cs y h;exact ⟨x,⟨h1,h2⟩,h3⟩)
 rw [sumE] at m4
 obtain ⟨x5,rfl,m5,f5⟩:=one_intG u5 g5
 have hcs:cs=[.int .u8 x0,.int .u8 x1,.int .i64 x2,.string x3,.slice a4 x4.length cap4,.int .i64 x5]:=by
  apply List.ext_getElem?
  intro i
  match i with
  | 0=>exact c0
  | 1=>exact c1
  | 2=>exact c2
  | 3=>exact c3
  | 4=>exact c4
  | 5=>exact c5
  | i+6=>rw [List.getElem?_eq_none (by rw [hl];simp),List.getElem?_eq_none (by simp)]
 have hys:ys=[z0,z1,z2,z3,z4,z5]:=by
  apply List.ext_getElem?
  intro i
  match i with
  | 0=>exact d0
  | 1=>exact d1
  | 2=>exact d2
  | 3=>exact d3
  | 4=>exact d4
  | 5=>exact d5
  | i+6=>rw [List.getElem?_eq_none (by rw [hyl];simp),List.getElem?_eq_none (by simp)]
 have hbk:Rows.uptoBulk y.1=Rows.uptoBulk z0.1+Rows.uptoBulk z1.1+Rows.uptoBulk z2.1+Rows.uptoBulk z3.1+Rows.uptoBulk z4.1+Rows.uptoBulk z5.1+1:=by rw [hyd,hys];simp only [List.map_cons,List.map_nil,Rows.uptoBulk,Rows.uptoBulkAll];omega
 have w4:exsAt (fun _=>True) W x4 a4:=by
  rcases e4 with rfl | ⟨g,q,rfl,hq⟩
  · exact .inl rfl
  · exact .inr ⟨g,q,rfl,trivial,exsIn_all _ q fun i x hx=>by obtain ⟨cs,⟨_,h1⟩,h2⟩:=hq i x hx;exact exIn_of h1 h2⟩
 have k4:∀ x∈x4,okgE x:=by
  intro x hx
  obtain ⟨i,hi⟩:=List.getElem?_of_mem hx
  rcases e4 with rfl | ⟨g,q,rfl,hq⟩
  · simp at hx
  · obtain ⟨cs,⟨h1,_⟩,_⟩:=hq i x hi;exact h1
 exact ⟨.mk x0 x1 x2 x3 x4 x5,⟨⟨b4,(okEs_all fun x hx=>(k4 x hx).1)⟩,u8_bd f0,u8_bd f1,i64_bd f2,(rgEs_all fun x hx=>(k4 x hx).2)⟩,⟨a4,cap4,hcs,w4⟩,by rw [hbk];simp only [bkE];omega⟩
theorem openG_st:∀ (n:Nat) (cs:List Value) (y:DataW H × List MemPlace),DataW.trod enc Tryz.prog W 0 sp held n 57 cs=some y→∃ x:St,okgS x∧stV (fun _=>True) W x cs∧bkS x≤Rows.uptoBulk y.1:=by
 intro n
 induction n using Nat.strongRecOn with
 | ind n ih =>
 intro cs y h
 obtain ⟨fs,hu,hk⟩:=fieldsS
 obtain ⟨m,ys,rfl,hl,hyl,hyd,hf⟩:=open_fieldsM hu hk rfl cellsS h
 obtain ⟨v0,t0,z0,c0,d0,u0,g0⟩:=hf 0 _ rfl
 obtain ⟨v1,t1,z1,c1,d1,u1,g1⟩:=hf 1 _ rfl
 obtain ⟨v2,t2,z2,c2,d2,u2,g2⟩:=hf 2 _ rfl
 obtain ⟨v3,t3,z3,c3,d3,u3,g3⟩:=hf 3 _ rfl
 obtain ⟨v4,t4,z4,c4,d4,u4,g4⟩:=hf 4 _ rfl
 obtain ⟨v5,t5,z5,c5,d5,u5,g5⟩:=hf 5 _ rfl
 obtain ⟨v6,t6,z6,c6,d6,u6,g6⟩:=hf 6 _ rfl
 obtain ⟨x0,rfl,m0,f0⟩:=one_intG u0 g0
 obtain ⟨x1,rfl,m1⟩:=one_stringM u1 g1
 obtain ⟨x2,rfl,m2⟩:=one_stringM u2 g2
 obtain ⟨x3,a3,cap3,rfl,b3,m3,e3⟩:=open_listM u3 cellsE (by decide) (fun (x:Ex) cs=>okgE x∧exV (fun _=>True) W x cs) bkE g3 (fun k cs y hk h=>by obtain ⟨x,h1,h2,h3⟩:=openG_ex k cs y h;exact ⟨x,⟨h1,h2⟩,h3⟩)
 rw [sumE] at m3
 obtain ⟨x4,a4,cap4,rfl,b4,m4,e4⟩:=open_listM u4 cellsS (by decide) (fun (x:St) cs=>okgS x∧stV (fun _=>True) W x cs) bkS g4 (fun k cs y hk h=>by obtain ⟨x,h1,h2,h3⟩:=ih k (by omega) cs y h;exact ⟨x,⟨h1,h2⟩,h3⟩)
 rw [sumS] at m4
 obtain ⟨x5,a5,cap5,rfl,b5,m5,e5⟩:=open_listM u5 cellsS (by decide) (fun (x:St) cs=>okgS x∧stV (fun _=>True) W x cs) bkS g5 (fun k cs y hk h=>by obtain ⟨x,h1,h2,h3⟩:=ih k (by omega) cs y h;exact ⟨x,⟨h1,h2⟩,h3⟩)
 rw [sumS] at m5
 obtain ⟨x6,rfl,m6,f6⟩:=one_intG u6 g6
 have hcs:cs=[.int .u8 x0,.string x1,.string x2,.slice a3 x3.length cap3,.slice a4 x4.length cap4,.slice a5 x5.length cap5,.int .i64 x6]:=by
  apply List.ext_getElem?
  intro i
  match i with
  | 0=>exact c0
  | 1=>exact c1
  | 2=>exact c2
  | 3=>exact c3
  | 4=>exact c4
  | 5=>exact c5
  | 6=>exact c6
  | i+7=>rw [List.getElem?_eq_none (by rw [hl];simp),List.getElem?_eq_none (by simp)]
 have hys:ys=[z0,z1,z2,z3,z4,z5,z6]:=by
  apply List.ext_getElem?
  intro i
  match i with
  | 0=>exact d0
  | 1=>exact d1
  | 2=>exact d2
  | 3=>exact d3
  | 4=>exact d4
  | 5=>exact d5
  | 6=>exact d6
  | i+7=>rw [List.getElem?_eq_none (by rw [hyl];simp),List.getElem?_eq_none (by simp)]
 have hbk:Rows.uptoBulk y.1=Rows.uptoBulk z0.1+Rows.uptoBulk z1.1+Rows.uptoBulk z2.1+Rows.uptoBulk z3.1+Rows.uptoBulk z4.1+Rows.uptoBulk z5.1+Rows.uptoBulk z6.1+1:=by rw [hyd,hys];simp only [List.map_cons,List.map_nil,Rows.uptoBulk,Rows.uptoBulkAll];omega
 have w3:exsAt (fun _=>True) W x3 a3:=by
  rcases e3 with rfl | ⟨g,q,rfl,hq⟩
  · exact .inl rfl
  · exact .inr ⟨g,q,rfl,trivial,exsIn_all _ q fun i x hx=>by obtain ⟨cs,⟨_,h1⟩,h2⟩:=hq i x hx;exact exIn_of h1 h2⟩
 have k3:∀ x∈x3,okgE x:=by
  intro x hx
  obtain ⟨i,hi⟩:=List.getElem?_of_mem hx
  rcases e3 with rfl | ⟨g,q,rfl,hq⟩
  · simp at hx
  · obtain ⟨cs,⟨h1,_⟩,_⟩:=hq i x hi;exact h1
 have w4:stsAt (fun _=>True) W x4 a4:=by
  rcases e4 with rfl | ⟨g,q,rfl,hq⟩
  · exact .inl rfl
  · exact .inr ⟨g,q,rfl,trivial,stsIn_all _ q fun i x hx=>by obtain ⟨cs,⟨_,h1⟩,h2⟩:=hq i x hx;exact stIn_of h1 h2⟩
 have k4:∀ x∈x4,okgS x:=by
  intro x hx
  obtain ⟨i,hi⟩:=List.getElem?_of_mem hx
  rcases e4 with rfl | ⟨g,q,rfl,hq⟩
  · simp at hx
  · obtain ⟨cs,⟨h1,_⟩,_⟩:=hq i x hi;exact h1
 have w5:stsAt (fun _=>True) W x5 a5:=by
  rcases e5 with rfl | ⟨g,q,rfl,hq⟩
  · exact .inl rfl
  · exact .inr ⟨g,q,rfl,trivial,stsIn_all _ q fun i x hx=>by obtain ⟨cs,⟨_,h1⟩,h2⟩:=hq i x hx;exact stIn_of h1 h2⟩
 have k5:∀ x∈x5,okgS x:=by
  intro x hx
  obtain ⟨i,hi⟩:=List.getElem?_of_mem hx
  rcases e5 with rfl | ⟨g,q,rfl,hq⟩
  · simp at hx
  · obtain ⟨cs,⟨h1,_⟩,_⟩:=hq i x hi;exact h1
 exact ⟨.mk x0 x1 x2 x3 x4 x5 x6,⟨⟨⟨b3,(okEs_all fun x hx=>(k3 x hx).1)⟩,⟨b4,(okSs_all fun x hx=>(k4 x hx).1)⟩,b5,(okSs_all fun x hx=>(k5 x hx).1)⟩,u8_bd f0,(rgEs_all fun x hx=>(k3 x hx).2),(rgSs_all fun x hx=>(k4 x hx).2),(rgSs_all fun x hx=>(k5 x hx).2)⟩,⟨a3,cap3,a4,cap4,a5,cap5,hcs,w3,w4,w5⟩,by rw [hbk];simp only [bkS];omega⟩
theorem openG_th (n:Nat) (cs:List Value) (y:DataW H × List MemPlace) (h:DataW.trod enc Tryz.prog W 0 sp held n 59 cs=some y):∃ x:Th,okgT x∧thV (fun _=>True) W x cs∧bkT x≤Rows.uptoBulk y.1:=by
 obtain ⟨fs,hu,hk⟩:=fieldsT
 obtain ⟨m,ys,rfl,hl,hyl,hyd,hf⟩:=open_fieldsM hu hk rfl cellsT h
 obtain ⟨v0,t0,z0,c0,d0,u0,g0⟩:=hf 0 _ rfl
 obtain ⟨v1,t1,z1,c1,d1,u1,g1⟩:=hf 1 _ rfl
 obtain ⟨v2,t2,z2,c2,d2,u2,g2⟩:=hf 2 _ rfl
 obtain ⟨v3,t3,z3,c3,d3,u3,g3⟩:=hf 3 _ rfl
 obtain ⟨x0,rfl,m0⟩:=one_stringM u0 g0
 obtain ⟨x1,a1,cap1,rfl,b1,m1,e1⟩:=open_listM u1 cellsD (by decide) (fun (x:Dc) cs=>cs=dcCells x∧rgd x) bkD g1 (fun k cs y hk h=>by obtain ⟨x,h1,h2⟩:=openG_dc k cs y h;exact ⟨x,h1,h2⟩)
 rw [sumD] at m1
 obtain ⟨x2,a2,cap2,rfl,b2,m2,e2⟩:=open_listM u2 cellsS (by decide) (fun (x:St) cs=>okgS x∧stV (fun _=>True) W x cs) bkS g2 (fun k cs y hk h=>by obtain ⟨x,h1,h2,h3⟩:=openG_st k cs y h;exact ⟨x,⟨h1,h2⟩,h3⟩)
 rw [sumS] at m2
 obtain ⟨x3,rfl,m3,f3⟩:=one_intG u3 g3
 have hcs:cs=[.string x0,.slice a1 x1.length cap1,.slice a2 x2.length cap2,.int .i64 x3]:=by
  apply List.ext_getElem?
  intro i
  match i with
  | 0=>exact c0
  | 1=>exact c1
  | 2=>exact c2
  | 3=>exact c3
  | i+4=>rw [List.getElem?_eq_none (by rw [hl];simp),List.getElem?_eq_none (by simp)]
 have hys:ys=[z0,z1,z2,z3]:=by
  apply List.ext_getElem?
  intro i
  match i with
  | 0=>exact d0
  | 1=>exact d1
  | 2=>exact d2
  | 3=>exact d3
  | i+4=>rw [List.getElem?_eq_none (by rw [hyl];simp),List.getElem?_eq_none (by simp)]
 have hbk:Rows.uptoBulk y.1=Rows.uptoBulk z0.1+Rows.uptoBulk z1.1+Rows.uptoBulk z2.1+Rows.uptoBulk z3.1+1:=by rw [hyd,hys];simp only [List.map_cons,List.map_nil,Rows.uptoBulk,Rows.uptoBulkAll];omega
 have w1:dcsAt (fun _=>True) W x1 a1:=by
  rcases e1 with rfl | ⟨g,q,rfl,hq⟩
  · exact .inl rfl
  · exact .inr ⟨g,q,rfl,trivial,dcsIn_all _ q fun i x hx=>by obtain ⟨cs,⟨rfl,_⟩,h2⟩:=hq i x hx;exact dcIn_of h2⟩
 have w2:stsAt (fun _=>True) W x2 a2:=by
  rcases e2 with rfl | ⟨g,q,rfl,hq⟩
  · exact .inl rfl
  · exact .inr ⟨g,q,rfl,trivial,stsIn_all _ q fun i x hx=>by obtain ⟨cs,⟨_,h1⟩,h2⟩:=hq i x hx;exact stIn_of h1 h2⟩
 have k2:∀ x∈x2,okgS x:=by
  intro x hx
  obtain ⟨i,hi⟩:=List.getElem?_of_mem hx
  rcases e2 with rfl | ⟨g,q,rfl,hq⟩
  · simp at hx
  · obtain ⟨cs,⟨h1,_⟩,_⟩:=hq i x hi;exact h1
 exact ⟨⟨x0,x1,x2,x3⟩,⟨⟨b1,b2,(okSs_all fun x hx=>(k2 x hx).1)⟩,(rgSs_all fun x hx=>(k2 x hx).2)⟩,⟨a1,cap1,a2,cap2,hcs,w1,w2⟩,by rw [hbk];simp only [bkT];omega⟩
theorem openG_pg (n:Nat) (cs:List Value) (y:DataW H × List MemPlace) (h:DataW.trod enc Tryz.prog W 0 sp held n 25 cs=some y):∃ x:Pg,okgP x∧pA W x (.agg cs.toArray)∧bkP x≤Rows.uptoBulk y.1:=by
 obtain ⟨fs,hu,hk⟩:=fieldsP
 obtain ⟨m,ys,rfl,hl,hyl,hyd,hf⟩:=open_fieldsM hu hk rfl cellsP h
 obtain ⟨v0,t0,z0,c0,d0,u0,g0⟩:=hf 0 _ rfl
 obtain ⟨v1,t1,z1,c1,d1,u1,g1⟩:=hf 1 _ rfl
 obtain ⟨v2,t2,z2,c2,d2,u2,g2⟩:=hf 2 _ rfl
 obtain ⟨x0,a0,cap0,rfl,b0,m0,e0⟩:=open_listM u0 cellsD (by decide) (fun (x:Dc) cs=>cs=dcCells x∧rgd x) bkD g0 (fun k cs y hk h=>by obtain ⟨x,h1,h2⟩:=openG_dc k cs y h;exact ⟨x,h1,h2⟩)
 rw [sumD] at m0
 obtain ⟨x1,a1,cap1,rfl,b1,m1,e1⟩:=open_listM u1 cellsD (by decide) (fun (x:Dc) cs=>cs=dcCells x∧rgd x) bkD g1 (fun k cs y hk h=>by obtain ⟨x,h1,h2⟩:=openG_dc k cs y h;exact ⟨x,h1,h2⟩)
 rw [sumD] at m1
 obtain ⟨x2,a2,cap2,rfl,b2,m2,e2⟩:=open_listM u2 cellsT (by decide) (fun (x:Th) cs=>okgT x∧thV (fun _=>True) W x cs) bkT g2 (fun k cs y hk h=>by obtain ⟨x,h1,h2,h3⟩:=openG_th k cs y h;exact ⟨x,⟨h1,h2⟩,h3⟩)
 rw [sumT] at m2
 have hcs:cs=[.slice a0 x0.length cap0,.slice a1 x1.length cap1,.slice a2 x2.length cap2]:=by
  apply List.ext_getElem?
  intro i
  match i with
  | 0=>exact c0
  | 1=>exact c1
  | 2=>exact c2
  | i+3=>rw [List.getElem?_eq_none (by rw [hl];simp),List.getElem?_eq_none (by simp)]
 have hys:ys=[z0,z1,z2]:=by
  apply List.ext_getElem?
  intro i
  match i with
  | 0=>exact d0
  | 1=>exact d1
  | 2=>exact d2
  | i+3=>rw [List.getElem?_eq_none (by rw [hyl];simp),List.getElem?_eq_none (by simp)]
 have hbk:Rows.uptoBulk y.1=Rows.uptoBulk z0.1+Rows.uptoBulk z1.1+Rows.uptoBulk z2.1+1:=by rw [hyd,hys];simp only [List.map_cons,List.map_nil,Rows.uptoBulk,Rows.uptoBulkAll];omega
 have w0:dcsAt (fun _=>True) W x0 a0:=by
  rcases e0 with rfl | ⟨g,q,rfl,hq⟩
  · exact .inl rfl
  · exact .inr ⟨g,q,rfl,trivial,dcsIn_all _ q fun i x hx=>by obtain ⟨cs,⟨rfl,_⟩,h2⟩:=hq i x hx;exact dcIn_of h2⟩
 have w1:dcsAt (fun _=>True) W x1 a1:=by
  rcases e1 with rfl | ⟨g,q,rfl,hq⟩
  · exact .inl rfl
  · exact .inr ⟨g,q,rfl,trivial,dcsIn_all _ q fun i x hx=>by obtain ⟨cs,⟨rfl,_⟩,h2⟩:=hq i x hx;exact dcIn_of h2⟩
 have w2:thsAt (fun _=>True) W x2 a2:=by
  rcases e2 with rfl | ⟨g,q,rfl,hq⟩
  · exact .inl rfl
  · exact .inr ⟨g,q,rfl,trivial,thsIn_all _ q fun i x hx=>by obtain ⟨cs,⟨_,h1⟩,h2⟩:=hq i x hx;exact thIn_of h1 h2⟩
 have kd:rgD x0:=by
  intro x hx
  obtain ⟨i,hi⟩:=List.getElem?_of_mem hx
  rcases e0 with rfl | ⟨g,q,rfl,hq⟩
  · simp at hx
  · obtain ⟨cs,⟨_,h1⟩,_⟩:=hq i x hi;exact h1
 have k2:∀ x∈x2,okgT x:=by
  intro x hx
  obtain ⟨i,hi⟩:=List.getElem?_of_mem hx
  rcases e2 with rfl | ⟨g,q,rfl,hq⟩
  · simp at hx
  · obtain ⟨cs,⟨h1,_⟩,_⟩:=hq i x hi;exact h1
 exact ⟨⟨x0,x1,x2⟩,⟨⟨b0,b1,b2,fun t ht=>(k2 t ht).1⟩,fun t ht=>(k2 t ht).2,kd⟩,⟨a0,cap0,a1,cap1,a2,cap2,by rw [hcs],w0,w1,w2⟩,by rw [hbk];simp only [bkP];omega⟩
theorem pgArgG_of {r:Reach} {b0:Nat} {v:Value} {d:DataW H} {ps:List MemPlace} (hval:Value.okWide Tryz.prog W r b0 25 v) (hd:DataW.Trod enc Tryz.prog W 0 sp held 25 v d ps):∃ x:Pg,okgP x∧pA W x v∧bkP x≤Rows.uptoBulk d:=by
 obtain ⟨fs,hu,_⟩:=fieldsP
 obtain ⟨cs,rfl,_⟩:=okWide_struct hu hval
 obtain ⟨fuel,hf⟩:=hd
 obtain ⟨x,h1,h2,h3⟩:=openG_pg fuel _ _ hf
 exact ⟨x,h1,by simpa [Value.cells] using h2,h3⟩
theorem exArgG_of {r:Reach} {b0:Nat} {v:Value} {d:DataW H} {ps:List MemPlace} (hval:Value.okWide Tryz.prog W r b0 30 v) (hd:DataW.Trod enc Tryz.prog W 0 sp held 30 v d ps):∃ x:Ex,okgE x∧exA W x v∧bkE x≤Rows.uptoBulk d:=by
 obtain ⟨fs,hu,_⟩:=fieldsE
 obtain ⟨cs,rfl,_⟩:=okWide_struct hu hval
 obtain ⟨fuel,hf⟩:=hd
 obtain ⟨x,h1,⟨a,cap,h2,h3⟩,h4⟩:=openG_ex fuel _ _ hf
 have h2:cs.toList=exCells x a cap:=by simpa [Value.cells] using h2
 exact ⟨x,h1,⟨a,cap,by rw [show cs=(exCells x a cap).toArray by rw [← h2]];rfl,h3⟩,h4⟩
end
open Go.RowKit
set_option linter.unusedVariables false
set_option maxRecDepth 100000
theorem res1c {fn:Func} {T:TypeId} {i:Tmp} (h:fn.results=#[.cell i T]) {tmps:Array Value} {P:Program} {w:World} {a:Addr} {x:Value} (ha:tmps.getD i undef=.pointer (some a)) (h1:(loadVar T a).run P w=.ok x w):(results fn tmps).run P w=.ok x w:=by
 have ha':tmps[i]?.getD undef=.pointer (some a):=by simpa using ha
 simp [results,h,ha',asAddr,h1]
def nmX (s:ByteArray):Ex:=.mk 2 0 0 s [] 0
theorem p_name4 (s:ByteArray) (w:World):Calls Tryz.prog 17 #[.string s] w fun e w'=>e=.returned (.agg #[.int .u8 2,.int .u8 0,.int .i64 0,.string s,.slice none 0 0,.int .i64 0])∧Below w.heap.size w w':=by
 have O1:=Own.new w 30 #[.int .u8 0,.int .u8 0,.int .i64 0,.string ⟨#[]⟩,.slice none 0 0,.int .i64 0]
 have B1:Below w.heap.size w (w.alloc (.cells #[.int .u8 0,.int .u8 0,.int .i64 0,.string ⟨#[]⟩,.slice none 0 0,.int .i64 0] 30)):=(Below.refl _ w).alloc (Nat.le_refl _) _
 have p1:=Lib.hid (O1.row #[.int .u8 2,.int .u8 0,.int .i64 0,.string s,.slice none 0 0,.int .i64 0])
 have B2:=Lib.hid (Below.of_row B1 (g:=w.heap.size) (Nat.le_refl _) #[.int .u8 2,.int .u8 0,.int .i64 0,.string s,.slice none 0 0,.int .i64 0])
 go_enter Tryz.func17,Tryz.ntmps17
 go_wp2_with (refine st rowEx rfl rfl O1 rfl rfl (by rfl) (by rfl) (by kernel_rfl) ?_)
 refine bodyPost_ret (res1c rfl rfl (lv_row rowEx p1.out rfl)) rfl ⟨rfl,B2.out⟩
theorem p_binary4 {op kx ox wx px ky oy wy py:Int} {nx ny:ByteArray} {ax ay:Option Addr} {mx cx my cy:Nat} {x y:Ex} {w:World} (hx:exV (fun _=>True) w x [.int .u8 kx,.int .u8 ox,.int .i64 wx,.string nx,.slice ax mx cx,.int .i64 px]) (hy:exV (fun _=>True) w y [.int .u8 ky,.int .u8 oy,.int .i64 wy,.string ny,.slice ay my cy,.int .i64 py]) :
 Calls Tryz.prog 16 #[.int .u8 op,.agg #[.int .u8 kx,.int .u8 ox,.int .i64 wx,.string nx,.slice ax mx cx,.int .i64 px],.agg #[.int .u8 ky,.int .u8 oy,.int .i64 wy,.string ny,.slice ay my cy,.int .i64 py]] w fun e w'=>∃ a,e=.returned (.agg #[.int .u8 4,.int .u8 op,.int .i64 0,.string ⟨#[]⟩,.slice a 2 2,.int .i64 0])∧exsAt (fun _=>True) w' [x,y] a∧Below w.heap.size w w':=by
 have O1:=((Own.new w 30 #[.int .u8 kx,.int .u8 ox,.int .i64 wx,.string nx,.slice ax mx cx,.int .i64 px]).alloc (.cells #[.int .u8 ky,.int .u8 oy,.int .i64 wy,.string ny,.slice ay my cy,.int .i64 py] 30)).alloc (.cells #[.int .u8 0,.int .u8 0,.int .i64 0,.string ⟨#[]⟩,.slice none 0 0,.int .i64 0] 30)
 have O2:=(Own.new (w.alloc (.cells #[.int .u8 kx,.int .u8 ox,.int .i64 wx,.string nx,.slice ax mx cx,.int .i64 px] 30)) 30 #[.int .u8 ky,.int .u8 oy,.int .i64 wy,.string ny,.slice ay my cy,.int .i64 py]).alloc (.cells #[.int .u8 0,.int .u8 0,.int .i64 0,.string ⟨#[]⟩,.slice none 0 0,.int .i64 0] 30)
 have O3:=Own.new ((w.alloc (.cells #[.int .u8 kx,.int .u8 ox,.int .i64 wx,.string nx,.slice ax mx cx,.int .i64 px] 30)).alloc (.cells #[.int .u8 ky,.int .u8 oy,.int .i64 wy,.string ny,.slice ay my cy,.int .i64 py] 30)) 30 #[.int .u8 0,.int .u8 0,.int .i64 0,.string ⟨#[]⟩,.slice none 0 0,.int .i64 0]
 rw [World.size_alloc] at O2
 rw [World.size_alloc,World.size_alloc] at O3
 obtain ⟨W1,hW1⟩:∃ W,W=((w.alloc (.cells #[.int .u8 kx,.int .u8 ox,.int .i64 wx,.string nx,.slice ax mx cx,.int .i64 px] 30)).alloc (.cells #[.int .u8 ky,.int .u8 oy,.int .i64 wy,.string ny,.slice ay my cy,.int .i64 py] 30)).alloc (.cells #[.int .u8 0,.int .u8 0,.int .i64 0,.string ⟨#[]⟩,.slice none 0 0,.int .i64 0] 30):=⟨_,rfl⟩
 have hs1:W1.heap.size=w.heap.size+3:=by rw [hW1];simp only [World.size_alloc]
 have B1:Below w.heap.size w W1:=by rw [hW1];exact (((Below.refl _ w).alloc (Nat.le_refl _) _).alloc (by simp only [World.size_alloc];omega) _).alloc (by simp only [World.size_alloc];omega) _
 rw [← hW1] at O1 O2 O3
 have HW1:=Lib.hid hW1
 have HX:=Lib.hid hx
 have HY:=Lib.hid hy
 have HS:=Lib.hid hs1
 have HB:=Lib.hid B1
 clear hW1 hx hy hs1 B1
 have K4:=O3.alloc (.cells #[.int .u8 kx,.int .u8 ox,.int .i64 wx,.string nx,.slice ax mx cx,.int .i64 px,.int .u8 ky,.int .u8 oy,.int .i64 wy,.string ny,.slice ay my cy,.int .i64 py] 30)
 go_enter Tryz.func16,Tryz.ntmps16
 go_upto_region 1 with (fail)
 rw [← HW1.out]
 go_wp2_with (first | (refine ld rowEx rfl rfl rfl O1 rfl ?_) | (refine ld rowEx rfl rfl rfl O2 rfl ?_) | (refine st rowEx rfl rfl K4 rfl rfl (by rfl) (by rfl) (by kernel_rfl) ?_))
 have KB:=(Own.new W1 30 #[.int .u8 kx,.int .u8 ox,.int .i64 wx,.string nx,.slice ax mx cx,.int .i64 px,.int .u8 ky,.int .u8 oy,.int .i64 wy,.string ny,.slice ay my cy,.int .i64 py]).other (g:=w.heap.size+1+1) #[.int .u8 4,.int .u8 op,.int .i64 0,.string ⟨#[]⟩,.slice (some ⟨W1.heap.size,0,none⟩) 2 2,.int .i64 0] (by have:=HS.out;omega)
 have K6:=K4.row #[.int .u8 4,.int .u8 op,.int .i64 0,.string ⟨#[]⟩,.slice (some ⟨W1.heap.size,0,none⟩) 2 2,.int .i64 0]
 have B2:=Below.of_row (HB.out.alloc HB.out.size (.cells #[.int .u8 kx,.int .u8 ox,.int .i64 wx,.string nx,.slice ax mx cx,.int .i64 px,.int .u8 ky,.int .u8 oy,.int .i64 wy,.string ny,.slice ay my cy,.int .i64 py] 30)) (g:=w.heap.size+1+1) (by omega) #[.int .u8 4,.int .u8 op,.int .i64 0,.string ⟨#[]⟩,.slice (some ⟨W1.heap.size,0,none⟩) 2 2,.int .i64 0]
 generalize (W1.alloc (.cells #[.int .u8 kx,.int .u8 ox,.int .i64 wx,.string nx,.slice ax mx cx,.int .i64 px,.int .u8 ky,.int .u8 oy,.int .i64 wy,.string ny,.slice ay my cy,.int .i64 py] 30)).setRow (w.heap.size+1+1) #[.int .u8 4,.int .u8 op,.int .i64 0,.string ⟨#[]⟩,.slice (some ⟨W1.heap.size,0,none⟩) 2 2,.int .i64 0]=W2 at KB K6 B2 ⊢
 have ex:exV (fun _=>True) W2 x [.int .u8 kx,.int .u8 ox,.int .i64 wx,.string nx,.slice ax mx cx,.int .i64 px]:=by
  obtain ⟨a,c,h1,h2⟩:=HX.out
  exact ⟨a,c,h1,exsAt_below h2 B2⟩
 have ey:exV (fun _=>True) W2 y [.int .u8 ky,.int .u8 oy,.int .i64 wy,.string ny,.slice ay my cy,.int .i64 py]:=by
  obtain ⟨a,c,h1,h2⟩:=HY.out
  exact ⟨a,c,h1,exsAt_below h2 B2⟩
 refine bodyPost_ret (res1c rfl rfl (lv_row rowEx K6 rfl)) rfl ⟨some ⟨W1.heap.size,0,none⟩,rfl,.inr ⟨W1.heap.size,0,rfl,trivial,exIn_of ex fun j u hj=>?_,exIn_of ey fun j u hj=>?_,trivial⟩,B2⟩
 · rw [cell_of_row _ _ (0 + j) _ _ _ KB, Nat.zero_add]
   match j,hj with
   | 0,hj=>exact hj
   | 1,hj=>exact hj
   | 2,hj=>exact hj
   | 3,hj=>exact hj
   | 4,hj=>exact hj
   | 5,hj=>exact hj
   | n+6,hj=>simp at hj
 · rw [cell_of_row _ _ (0 + 6 + j) _ _ _ KB]
   match j,hj with
   | 0,hj=>exact hj
   | 1,hj=>exact hj
   | 2,hj=>exact hj
   | 3,hj=>exact hj
   | 4,hj=>exact hj
   | 5,hj=>exact hj
   | n+6,hj=>simp at hj
open Go.RowKit
set_option linter.unusedVariables false
set_option maxRecDepth 100000
def E1:Ex:=biX 2 0 (nmX ⟨#[97]⟩) (biX 2 0 (nmX ⟨#[98]⟩) (nmX ⟨#[99]⟩))
def E2:Ex:=biX 1 0 (nmX ⟨#[97]⟩) (biX 3 0 (nmX ⟨#[98]⟩) (nmX ⟨#[99]⟩))
def P3:Pg:=⟨[⟨⟨#[120]⟩,-3,0⟩],[],[⟨⟨#[116]⟩,[],[.mk 7 ⟨#[]⟩ ⟨#[]⟩ [] [] [] 0],0⟩]⟩
def P4:Pg:=⟨[],[⟨⟨#[105,102]⟩,0,0⟩],[]⟩
theorem e1_y:mkY (rE E1 0) (tE E1)=.inl [97,32,45,32,40,98,32,45,32,99,41]:=by kernel_rfl
theorem e2_y:mkY (rE E2 0) (tE E2)=.inl [97,32,43,32,98,32,42,32,99]:=by kernel_rfl
theorem p3_y:mkY (rP P3) (tP P3)=.inl [115,104,97,114,101,100,32,120,32,61,32,45,51,59,10,116,104,114,101,97,100,32,116,32,123,10,32,32,115,107,105,112,59,10,125,10]:=by kernel_rfl
theorem p4_y:mkY (rP P4) (tP P4)=.inr 40:=by kernel_rfl
theorem e1_g:rgE E1:=by simp [E1,biX,nmX,rgE,rgEs]
theorem e2_g:rgE E2:=by simp [E2,biX,nmX,rgE,rgEs]
theorem p3_g:PrOk P3:=by simp [PrOk,P3,okP,okT,okSs,okS,okEs,rgP,rgT,rgSs,rgS,rgEs,rgD,lenP]
theorem p4_g:PrOk P4:=by simp [PrOk,P4,okP,rgP,rgD,lenP]
open Go.RowKit
set_option linter.unusedVariables false
set_option maxRecDepth 100000
theorem nmX_at (W:World) (s:ByteArray):exV (fun _=>True) W (nmX s) [.int .u8 2,.int .u8 0,.int .i64 0,.string s,.slice none 0 0,.int .i64 0]:=⟨none,0,rfl,.inl rfl⟩
theorem biX_at {W:World} {op:Int} {x y:Ex} {a:Option Addr} (h:exsAt (fun _=>True) W [x,y] a):exV (fun _=>True) W (biX op 0 x y) [.int .u8 4,.int .u8 op,.int .i64 0,.string ⟨#[]⟩,.slice a 2 2,.int .i64 0]:=⟨a,2,rfl,h⟩
theorem cellsIn_own {W:World} {g:Nat} {T:TypeId} {cs:List Value} (h:Own W g T cs.toArray):cellsIn W g 0 cs:=fun j u hj=>by
 rw [cell_of_row _ _ (0+j) _ _ _ h,Nat.zero_add,List.getElem?_toArray]
 exact hj
theorem p3_at {W:World} {g1 g2 g3:Nat} (O1:Own W g1 53 #[.string ⟨#[120]⟩,.int .i64 (-3),.int .i64 0]) (O2:Own W g2 57 #[.int .u8 7,.string ⟨#[]⟩,.string ⟨#[]⟩,.slice none 0 0,.slice none 0 0,.slice none 0 0,.int .i64 0])
 (O3:Own W g3 59 #[.string ⟨#[116]⟩,.slice none 0 0,.slice (some ⟨g2,0,none⟩) 1 1,.int .i64 0]):pA W P3 (.agg #[.slice (some ⟨g1,0,none⟩) 1 1,.slice none 0 0,.slice (some ⟨g3,0,none⟩) 1 1]) :=
 ⟨some ⟨g1,0,none⟩,1,none,0,some ⟨g3,0,none⟩,1,rfl,.inr ⟨g1,0,rfl,trivial,dcIn_of (cellsIn_own O1),trivial⟩,.inl rfl,
  .inr ⟨g3,0,rfl,trivial,thIn_of (vs:=[.string ⟨#[116]⟩,.slice none 0 0,.slice (some ⟨g2,0,none⟩) 1 1,.int .i64 0]) ⟨none,0,some ⟨g2,0,none⟩,1,rfl,.inl rfl,.inr ⟨g2,0,rfl,trivial,stIn_of (vs:=[.int .u8 7,.string ⟨#[]⟩,.string ⟨#[]⟩,.slice none 0 0,.slice none 0 0,.slice none 0 0,.int .i64 0]) ⟨none,0,none,0,none,0,rfl,.inl rfl,.inl rfl,.inl rfl⟩ (cellsIn_own O2),trivial⟩⟩ (cellsIn_own O3),trivial⟩⟩
theorem p4_at {W:World} {g1:Nat} (O1:Own W g1 53 #[.string ⟨#[105,102]⟩,.int .i64 0,.int .i64 0]):pA W P4 (.agg #[.slice none 0 0,.slice (some ⟨g1,0,none⟩) 1 1,.slice none 0 0]) :=
 ⟨none,0,some ⟨g1,0,none⟩,1,none,0,rfl,.inl rfl,.inr ⟨g1,0,rfl,trivial,dcIn_of (cellsIn_own O1),trivial⟩,.inl rfl⟩
theorem p_begins4 {w:World} (TT:WTb w):Calls Tryz.prog 6 #[] w fun e w'=>e=.returned (.bool true)∧Below w.heap.size w w':=by
 have HNM:Hid (∀ s W,Calls Tryz.prog 17 #[.string s] W fun e w'=>e=.returned (.agg #[.int .u8 2,.int .u8 0,.int .i64 0,.string s,.slice none 0 0,.int .i64 0])∧Below W.heap.size W w'):=fun s W=>p_name4 s W
 have HBN:Hid (∀ (op:Int) (s u:ByteArray) W,Calls Tryz.prog 16 #[.int .u8 op,.agg #[.int .u8 2,.int .u8 0,.int .i64 0,.string s,.slice none 0 0,.int .i64 0],.agg #[.int .u8 2,.int .u8 0,.int .i64 0,.string u,.slice none 0 0,.int .i64 0]] W fun e w'=>∃ a,e=.returned (.agg #[.int .u8 4,.int .u8 op,.int .i64 0,.string ⟨#[]⟩,.slice a 2 2,.int .i64 0])∧exsAt (fun _=>True) w' [nmX s,nmX u] a∧Below W.heap.size W w'):=fun op s u W=>p_binary4 (nmX_at W s) (nmX_at W u)
 have HBB:Hid (∀ (op oq:Int) (s:ByteArray) (x y:Ex) (a:Option Addr) W,exsAt (fun _=>True) W [x,y] a→Calls Tryz.prog 16 #[.int .u8 op,.agg #[.int .u8 2,.int .u8 0,.int .i64 0,.string s,.slice none 0 0,.int .i64 0],.agg #[.int .u8 4,.int .u8 oq,.int .i64 0,.string ⟨#[]⟩,.slice a 2 2,.int .i64 0]] W fun e w'=>∃ a,e=.returned (.agg #[.int .u8 4,.int .u8 op,.int .i64 0,.string ⟨#[]⟩,.slice a 2 2,.int .i64 0])∧exsAt (fun _=>True) w' [nmX s,biX oq 0 x y] a∧Below W.heap.size W w'):=fun op oq s x y a W h=>p_binary4 (nmX_at W s) (biX_at h)
 have HE1:Hid (∀ a W,WTb W→exsAt (fun _=>True) W [nmX ⟨#[97]⟩,biX 2 0 (nmX ⟨#[98]⟩) (nmX ⟨#[99]⟩)] a→Calls Tryz.prog 10 #[.agg #[.int .u8 4,.int .u8 2,.int .i64 0,.string ⟨#[]⟩,.slice a 2 2,.int .i64 0]] W fun e w'=>e=.returned (.tuple #[.string ⟨#[97,32,45,32,40,98,32,45,32,99,41]⟩,.int .i64 0])∧Below W.heap.size W w'):=fun a W T h =>
  (p_Expr4 (x:=E1) e1_g ⟨a,2,rfl,h⟩ T).mono fun e w' hh=>by
   obtain ⟨h1,h2⟩:=hh
   rw [e1_y] at h2
   exact ⟨h2,h1⟩
 have HE2:Hid (∀ a W,WTb W→exsAt (fun _=>True) W [nmX ⟨#[97]⟩,biX 3 0 (nmX ⟨#[98]⟩) (nmX ⟨#[99]⟩)] a→Calls Tryz.prog 10 #[.agg #[.int .u8 4,.int .u8 1,.int .i64 0,.string ⟨#[]⟩,.slice a 2 2,.int .i64 0]] W fun e w'=>e=.returned (.tuple #[.string ⟨#[97,32,43,32,98,32,42,32,99]⟩,.int .i64 0])∧Below W.heap.size W w'):=fun a W T h =>
  (p_Expr4 (x:=E2) e2_g ⟨a,2,rfl,h⟩ T).mono fun e w' hh=>by
   obtain ⟨h1,h2⟩:=hh
   rw [e2_y] at h2
   exact ⟨h2,h1⟩
 have HP3:Hid (∀ v W,WTb W→pA W P3 v→Calls Tryz.prog 7 #[v] W fun e w'=>e=.returned (.tuple #[.string ⟨#[115,104,97,114,101,100,32,120,32,61,32,45,51,59,10,116,104,114,101,97,100,32,116,32,123,10,32,32,115,107,105,112,59,10,125,10]⟩,.int .i64 0])∧Below W.heap.size W w'):=fun v W T h =>
  (p_Print p3_g h T).mono fun e w' hh=>by
   obtain ⟨h1,h2⟩:=hh
   rw [p3_y] at h2
   exact ⟨h2,h1⟩
 have HP4:Hid (∀ v W,WTb W→pA W P4 v→Calls Tryz.prog 18 #[v] W fun e w'=>e=.returned (.int .i64 40)∧Below W.heap.size W w'):=fun v W T h =>
  (p_Check p4_g h T).mono fun e w' hh=>by
   rw [p4_y] at hh
   exact hh
 have HT:=Lib.hid TT
 clear TT
 go_enter Tryz.func6,Tryz.ntmps6
 go_wp2_with fail
 go_at_call 17
 refine (HNM.out _ _).mono ?_
 rintro e w1 ⟨rfl,hb⟩
 have HB1:=Lib.hid hb
 clear hb
 go_wp2_with fail
 go_at_call 17
 refine (HNM.out _ _).mono ?_
 rintro e w2 ⟨rfl,hb⟩
 have HB2:=Lib.hid (HB1.out.trans (hb.mono HB1.out.size))
 clear hb
 go_wp2_with fail
 go_at_call 17
 refine (HNM.out _ _).mono ?_
 rintro e w3 ⟨rfl,hb⟩
 have HB3:=Lib.hid (HB2.out.trans (hb.mono HB2.out.size))
 clear hb
 go_wp2_with fail
 go_at_call 16
 refine (HBN.out _ _ _ _).mono ?_
 rintro e w4 ⟨a4,rfl,h4,hb⟩
 have HB4:=Lib.hid (HB3.out.trans (hb.mono HB3.out.size))
 have H4:=Lib.hid h4
 clear hb h4
 go_wp2_with fail
 go_at_call 16
 refine (HBB.out _ _ _ _ _ _ _ H4.out).mono ?_
 rintro e w5 ⟨a5,rfl,h5,hb⟩
 have HB5:=Lib.hid (HB4.out.trans (hb.mono HB4.out.size))
 have H5:=Lib.hid h5
 clear hb h5
 go_wp2_with fail
 go_at_call 10
 refine (HE1.out _ _ (HT.out.below HB5.out) H5.out).mono ?_
 rintro e w6 ⟨rfl,hb⟩
 have HB6:=Lib.hid (HB5.out.trans (hb.mono HB5.out.size))
 clear hb HB1 HB2 HB3 HB4 HB5 H4 H5
 go_wp2_with fail
 go_at_call 17
 refine (HNM.out _ _).mono ?_
 rintro e w1 ⟨rfl,hb⟩
 have HB1:=Lib.hid (HB6.out.trans (hb.mono HB6.out.size))
 clear hb
 go_wp2_with fail
 go_at_call 17
 refine (HNM.out _ _).mono ?_
 rintro e w2 ⟨rfl,hb⟩
 have HB2:=Lib.hid (HB1.out.trans (hb.mono HB1.out.size))
 clear hb
 go_wp2_with fail
 go_at_call 17
 refine (HNM.out _ _).mono ?_
 rintro e w3 ⟨rfl,hb⟩
 have HB3:=Lib.hid (HB2.out.trans (hb.mono HB2.out.size))
 clear hb
 go_wp2_with fail
 go_at_call 16
 refine (HBN.out _ _ _ _).mono ?_
 rintro e w4 ⟨a4',rfl,h4,hb⟩
 have HB4:=Lib.hid (HB3.out.trans (hb.mono HB3.out.size))
 have H4:=Lib.hid h4
 clear hb h4
 go_wp2_with fail
 go_at_call 16
 refine (HBB.out _ _ _ _ _ _ _ H4.out).mono ?_
 rintro e w5 ⟨a5',rfl,h5,hb⟩
 have HB5:=Lib.hid (HB4.out.trans (hb.mono HB4.out.size))
 have H5:=Lib.hid h5
 clear hb h5
 go_wp2_with fail
 go_at_call 10
 refine (HE2.out _ _ (HT.out.below HB5.out) H5.out).mono ?_
 rintro e w7 ⟨rfl,hb⟩
 have HB7:=Lib.hid (HB5.out.trans (hb.mono HB5.out.size))
 clear hb HB1 HB2 HB3 HB4 HB5 HB6 H4 H5
 have O1:=((Own.new w7 53 #[.string ⟨#[120]⟩,.int .i64 (-3),.int .i64 0]).alloc (.cells #[.int .u8 7,.string ⟨#[]⟩,.string ⟨#[]⟩,.slice none 0 0,.slice none 0 0,.slice none 0 0,.int .i64 0] 57)).alloc (.cells #[.string ⟨#[116]⟩,.slice none 0 0,.slice (some ⟨w7.heap.size+1,0,none⟩) 1 1,.int .i64 0] 59)
 have O2:=(Own.new (w7.alloc (.cells #[.string ⟨#[120]⟩,.int .i64 (-3),.int .i64 0] 53)) 57 #[.int .u8 7,.string ⟨#[]⟩,.string ⟨#[]⟩,.slice none 0 0,.slice none 0 0,.slice none 0 0,.int .i64 0]).alloc (.cells #[.string ⟨#[116]⟩,.slice none 0 0,.slice (some ⟨w7.heap.size+1,0,none⟩) 1 1,.int .i64 0] 59)
 have O3:=Own.new ((w7.alloc (.cells #[.string ⟨#[120]⟩,.int .i64 (-3),.int .i64 0] 53)).alloc (.cells #[.int .u8 7,.string ⟨#[]⟩,.string ⟨#[]⟩,.slice none 0 0,.slice none 0 0,.slice none 0 0,.int .i64 0] 57)) 59 #[.string ⟨#[116]⟩,.slice none 0 0,.slice (some ⟨w7.heap.size+1,0,none⟩) 1 1,.int .i64 0]
 rw [World.size_alloc] at O2
 rw [World.size_alloc,World.size_alloc] at O3
 have BA:Below w7.heap.size w7 (((w7.alloc (.cells #[.string ⟨#[120]⟩,.int .i64 (-3),.int .i64 0] 53)).alloc (.cells #[.int .u8 7,.string ⟨#[]⟩,.string ⟨#[]⟩,.slice none 0 0,.slice none 0 0,.slice none 0 0,.int .i64 0] 57)).alloc (.cells #[.string ⟨#[116]⟩,.slice none 0 0,.slice (some ⟨w7.heap.size+1,0,none⟩) 1 1,.int .i64 0] 59)):=(((Below.refl _ w7).alloc (Nat.le_refl _) _).alloc (by simp only [World.size_alloc];omega) _).alloc (by simp only [World.size_alloc];omega) _
 have HP:=Lib.hid (p3_at O1 O2 O3)
 have HB8:=Lib.hid (HB7.out.trans (BA.mono HB7.out.size))
 clear O1 O2 O3 BA HB7
 go_wp2_with fail
 go_at_call 7
 refine (HP3.out _ _ (HT.out.below HB8.out) HP.out).mono ?_
 rintro e w9 ⟨rfl,hb⟩
 have HB9:=Lib.hid (HB8.out.trans (hb.mono HB8.out.size))
 have HQ:=Lib.hid (p4_at (Own.new w9 53 #[.string ⟨#[105,102]⟩,.int .i64 0,.int .i64 0]))
 have HB10:=Lib.hid (HB9.out.alloc HB9.out.size (.cells #[.string ⟨#[105,102]⟩,.int .i64 0,.int .i64 0] 53))
 clear hb HB8 HB9 HP
 go_wp2_with fail
 go_at_call 18
 refine (HP4.out _ _ (HT.out.below HB10.out) HQ.out).mono ?_
 rintro e w11 ⟨rfl,hb⟩
 have HB11:=Lib.hid (HB10.out.trans (hb.mono HB10.out.size))
 clear hb
 go_wp2_with fail
 go_ret
 exact ⟨rfl,HB11.out⟩
open Go.RowKit
set_option linter.unusedVariables false
theorem drewN_below (W:World) (j:Nat):Below W.heap.size W (W.drewN j):=below_drewN (Below.refl _ W) j
def TwoIn (B:Nat) (w:World) (T U:TypeId) (p1 p2 r1 r2:Array Value) (u v:Value) (w':World):Prop:=∃ g h,u=.pointer (some ⟨g,0,none⟩)∧v=.pointer (some ⟨h,0,none⟩)∧Own w' g T r1∧Own w' h T r2∧Below B w w'∧Own w' B U p1∧Own w' (B+1) U p2
theorem twoIn_1 {B:Nat} {wr:World} {T U:TypeId} {p1 p2 r1 r2:Array Value} (hB:B+1<wr.heap.size) (h1:Own wr B U p1) (h2:Own wr (B+1) U p2):TwoIn B wr T U p1 p2 r1 r2 (.pointer (some ⟨wr.heap.size,0,none⟩)) (.pointer (some ⟨wr.heap.size+1,0,none⟩)) ((wr.alloc (.cells r1 T)).alloc (.cells r2 T)).drew:=by
 have k2:=Own.new (wr.alloc (.cells r1 T)) T r2
 rw [World.size_alloc] at k2
 exact ⟨_,_,rfl,rfl,((Own.new wr T r1).alloc (.cells r2 T)).drewN 1,k2.drewN 1,below_drewN ((((Below.refl B wr).alloc (by omega) _)).alloc (by rw [World.size_alloc];omega) _) 1,((h1.alloc _).alloc _).drewN 1,((h2.alloc _).alloc _).drewN 1⟩
theorem twoIn_2 {B:Nat} {wr:World} {T U:TypeId} {p1 p2 r1 r2:Array Value} (hB:B+1<wr.heap.size) (h1:Own wr B U p1) (h2:Own wr (B+1) U p2):TwoIn B wr T U p1 p2 r1 r2 (.pointer (some ⟨wr.heap.size+1,0,none⟩)) (.pointer (some ⟨wr.heap.size,0,none⟩)) ((wr.alloc (.cells r2 T)).alloc (.cells r1 T)).drew:=by
 have k2:=Own.new (wr.alloc (.cells r2 T)) T r1
 rw [World.size_alloc] at k2
 exact ⟨_,_,rfl,rfl,k2.drewN 1,((Own.new wr T r2).alloc (.cells r1 T)).drewN 1,below_drewN ((((Below.refl B wr).alloc (by omega) _)).alloc (by rw [World.size_alloc];omega) _) 1,((h1.alloc _).alloc _).drewN 1,((h2.alloc _).alloc _).drewN 1⟩
end Go.Proofs.YtggbkldniffbfaaGreatDoor

import Derived.Test.YtbgfkdiihnidaaaGreatDoorQAR
set_option maxRecDepth 100000
set_option maxHeartbeats 20000000
namespace Go.Proofs.YtbgfkdiihnidaaaGreatDoor
open Go.RowKit
set_option linter.unusedVariables false
set_option maxRecDepth 100000
theorem wexpr_any:∀ x:Ex,WrE x:=by
 intro x;induction x using Ex.ind with
 | h k o wd nm ks ps ih=>exact p_wexpr _ ih
def zFs:List Value:=[.nilFunc,.nilFunc,.nilFunc,.nilFunc,.nilFunc,.nilFunc,.nilFunc,.nilFunc]
theorem wt_new (W:World) (fs:List Value) (hf:fs.length=8):Wt W.heap.size [] 0 fs (W.alloc (.cells (.pointer none :: .slice none 0 0 :: .int .i64 0::fs).toArray 114)) :=
 ⟨.pointer none,.slice none 0 0,Own.new W _ _,hf,.inl rfl,fun _=>rfl,⟨rfl,.inl ⟨rfl,rfl⟩⟩⟩
def TxP (w:World) (t:List UInt8) (e:Ending) (w':World):Prop:=Below w.heap.size w w'/\(t.length<=65536/\e=.returned (.string ⟨t.toArray⟩)\/65536<t.length/\e=.panicked (errP 4))
theorem p_wexpression (x:Ex) (d:Int) (hr:rE x d=true) (hrg:rgE x) {v:Value} {w:World} (hv:exA w x v) (TT:WTb w):Calls Tryz.prog 154 #[v] w (TxP w (tE x)):=by
 obtain ⟨a,f,rfl,E⟩:=hv
 have H:Hid (∀ c W b,exA c x (.agg #[.int .u8 x.kind,.int .u8 x.op,.int .i64 x.wd,.string x.name,.slice a x.kids.length f,.int .i64 x.pos])->WTb c->b=c.heap.size->Below b c W->Wt b [] 0 zFs W->Calls Tryz.prog 185 #[.pointer (some ⟨b,0,none⟩),.agg #[.int .u8 x.kind,.int .u8 x.op,.int .i64 x.wd,.string x.name,.slice a x.kids.length f,.int .i64 x.pos]] W (PutP b [] (tE x) 0 zFs W)) :=
  fun c W b h T h0 E h2=>wexpr_any x d hr hrg _ c W b [] 0 zFs h T h0 E h2 (by simp)
 have l:∀ W,Below w.heap.size w W->exA W x (.agg #[.int .u8 x.kind,.int .u8 x.op,.int .i64 x.wd,.string x.name,.slice a x.kids.length f,.int .i64 x.pos]):=fun W hW=>⟨a,f,rfl,exsAt_below E hW⟩
 have z:=Hd l;have B:=Hd TT;clear E l TT hr hrg;generalize x.kind=k,x.op=o,x.wd=wd,x.name=n,x.kids.length=m,x.pos=ps at *;generalize tE x=tx at H ⊢;have r:Below w.heap.size w (w.alloc (.cells #[.int .u8 k,.int .u8 o,.int .i64 wd,.string n,.slice a m f,.int .i64 ps] 167)):=(Below.refl _ w).alloc (Nat.le_refl _) _;obtain ⟨c,g⟩:=Qx (w.alloc (.cells #[.int .u8 k,.int .u8 o,.int .i64 wd,.string n,.slice a m f,.int .i64 ps] 167));have t:c.heap.size=w.heap.size+1:=by rw [g,World.size_alloc]
 have C:Own c w.heap.size 167 #[.int .u8 k,.int .u8 o,.int .i64 wd,.string n,.slice a m f,.int .i64 ps]:=by rw [g];exact Own.new w _ _
 rw [<- g] at r;have i:Below c.heap.size c (c.alloc (.cells #[.pointer none,.slice none 0 0,.int .i64 0,.nilFunc,.nilFunc,.nilFunc,.nilFunc,.nilFunc,.nilFunc,.nilFunc,.nilFunc] 114)):=(Below.refl _ c).alloc (Nat.le_refl _) _;have s:=wt_new c zFs rfl;obtain ⟨N,j⟩:=Qx (c.alloc (.cells #[.pointer none,.slice none 0 0,.int .i64 0,.nilFunc,.nilFunc,.nilFunc,.nilFunc,.nilFunc,.nilFunc,.nilFunc,.nilFunc] 114));have p:Wt c.heap.size [] 0 zFs N:=by rw [j];exact s
 have y:=C.alloc (.cells #[.pointer none,.slice none 0 0,.int .i64 0,.nilFunc,.nilFunc,.nilFunc,.nilFunc,.nilFunc,.nilFunc,.nilFunc,.nilFunc] 114);rw [<- j] at i y;have R:=Hd (H.out c N _ (z.out _ r) (B.out.below r) rfl i p);have P:=Hd (r.trans (i.mono r.size));have L:=Hd t;have I:=Hd g;have F:=Hd j;clear g j s p i r C t H z B;have O1:=y;go_enter Tryz.func154,Tryz.ntmps154;go_upto_region 2 with (fail)
 rw [<- I.out,<- F.out];go_wp2_with (refine ld rowEx rfl rfl rfl O1 rfl ?_);go_at_call 185;have q:=R.out;rw [L.out] at q;refine q.mono ?_;clear q;rintro e U O;rcases O.cases with ⟨A,rfl,J,S,D⟩ | ⟨A,rfl,D⟩
 rotate_left
 · go_wp2_with fail
   exact ⟨rfl,P.out.trans (D.mono (by omega)),.inr ⟨by simpa using A,rfl⟩⟩
 rw [List.nil_append] at J A;have K:=Hd (wt_string J);have M:=Hd (P.out.trans (D.mono (by omega:w.heap.size<=w.heap.size+1)))
 have Q:=Hd A;clear A J S D O;go_wp2_with (first | (go_at_call 50;refine (K.out).mono ?_;rintro e V ⟨rfl,G⟩))
 go_ret;exact ⟨M.out.trans (G.mono (by omega)),.inl ⟨Q.out,rfl⟩⟩
set_option maxRecDepth 100000
theorem sa_list {b:Nat} {W:World} (hb:b<W.heap.size) (l:List ByteArray):SA b (W.alloc (.cells (l.map Value.string).toArray 9)) (some ⟨W.heap.size,0,none⟩) l :=
 .inr ⟨W.heap.size,_,rfl,by omega,Own.new W _ _,fun j x hj=>by simp [hj]⟩
theorem p_lineL {b:Nat} {txt:List UInt8} {deep:Nat} {fs:List Value} {W:World} (hw:Wt b txt deep fs W) (hd:deep<=1000) (ht:txt.length<=65536) (l:List ByteArray) (hl:l.length<=1000) (hs:∀ s∈l,s.size<=140737488289792) :
 Calls Tryz.prog 48 #[.pointer (some ⟨b,0,none⟩),.slice (some ⟨W.heap.size,0,none⟩) l.length l.length] (W.alloc (.cells (l.map Value.string).toArray 9)) (PutP b txt (marg deep++cat l++[10]) deep fs W):=by
 have h:=p_line (c:=l.length) (hw.below ((Below.refl _ W).alloc (Nat.le_refl _) (.cells (l.map Value.string).toArray 9))) hd ht (by omega) hs (sa_list hw.lt l)
 refine h.mono fun e w' ⟨h1,a⟩=>⟨((Below.refl b W).alloc (Nat.le_of_lt hw.lt) _).trans h1,?_⟩
 rcases a with ⟨d,i,g,f⟩ | a
 · exact .inl ⟨d,i,g,(keep_alloc _).trans f⟩
 · exact .inr a
def ln (d:Nat) (l:List (List UInt8)):List UInt8:=marg d++l.flatten++[10]
def e0T:List Ex->List UInt8 | x::_=>tE x | []=>[]
mutual
def tS:St->Nat->List UInt8
 | .mk k n o e b l _ => fun d =>
   if k=1 then ln d [n.data.toList,[32,61,32],e0T e,[59]]
   else if k=2 then ln d [n.data.toList,[32,61,32,115,119,97,112,40],o.data.toList,[44,32],e0T e,[41,59]]
   else if k=3 then ln d [[105,102,32,40],e0T e,[41,32,123]]++tSs b (d+1)++(if 0<l.length then ln d [[125,32,101,108,115,101,32,123]]++tSs l (d+1) else [])++ln d [[125]]
   else if k=4 then ln d [[119,104,105,108,101,32,40],e0T e,[41,32,123]]++tSs b (d+1)++ln d [[125]]
   else if k=5 then ln d [[108,111,99,107,32],n.data.toList,[32,123]]++tSs b (d+1)++ln d [[125]]
   else if k=6 then ln d [[112,114,105,110,116,32],e0T e,[59]]
   else ln d [[115,107,105,112,59]]
def tSs:List St->Nat->List UInt8
 | []=>fun _=>[]
 | x::r=>fun d=>tS x d++tSs r d
end
def mFs (b:Nat):List Value:=[.nilFunc,.func (.func 107) #[.pointer (some ⟨b,0,none⟩)] #[],.func (.func 108) #[.pointer (some ⟨b,0,none⟩)] #[],.func (.func 109) #[.pointer (some ⟨b,0,none⟩)] #[],.func (.func 110) #[.pointer (some ⟨b,0,none⟩)] #[],.func (.func 111) #[.pointer (some ⟨b,0,none⟩)] #[],.func (.func 112) #[.pointer (some ⟨b,0,none⟩)] #[],.func (.func 113) #[.pointer (some ⟨b,0,none⟩)] #[]]
theorem ln_cat (d:Nat) (l:List ByteArray):marg d++cat l++[10]=ln d (l.map fun s=>s.data.toList):=by
 unfold ln cat;rw [List.flatMap_def]
theorem not_u8S {cs:Array Value} : ¬ IsTy 5 (.cells cs 120):=by
 rintro ⟨c,f,h⟩;cases h
def Sst (w0 w:World) (b gx:Nat) (row:Array Value) (t:List UInt8) (deep:Int) (fs:List Value) (W:World):Prop :=
 Own W gx 120 row/\Wt b t deep fs W/\Below b w0 W/\Keep (selW b) w W/\Below b w W
section
variable {w0 w W W':World} {b gx:Nat} {row:Array Value} {t:List UInt8} {deep:Int} {fs:List Value}
theorem sst_below (h:Sst w0 w b gx row t deep fs W) (hb:Below W.heap.size W W'):Sst w0 w b gx row t deep fs W':=by
 obtain ⟨f,c,d,i,g⟩:=h;have a:Below b W W':=hb.mono (Nat.le_of_lt c.lt);exact ⟨f.below hb,c.below hb,d.trans a,i.trans (keep_below hb),g.trans a⟩
theorem sst_put (h:Sst w0 w b gx row t deep fs W) (hg:gx≠b) {t':List UInt8} {deep':Int} (hw:Wt b t' deep' fs W') (hk:Keep (selW b) W W') (hb:Below b W W'):Sst w0 w b gx row t' deep' fs W':=by
 obtain ⟨c,g,a,f,d⟩:=h;exact ⟨hk.block _ _ c ⟨hg,not_u8S⟩,hw,a.trans hb,f.trans hk,d.trans hb⟩
end
theorem ln_mem {d:Nat} {x:List UInt8} : ∀ {l:List (List UInt8)},x∈l->x.length<=(ln d l).length:=by
 intro l h;have:x.length<=l.flatten.length:=by
  induction l with
  | nil=>cases h
  | cons y r ih =>
    rw [List.flatten_cons,List.length_append];rcases List.mem_cons.1 h with rfl | h
    · omega
    · have:=ih h;omega
 unfold ln;simp only [List.length_append];omega
theorem p_line1 {b:Nat} {txt:List UInt8} {deep:Nat} {fs:List Value} {W:World} (hw:Wt b txt deep fs W) (hd:deep<=1000) (ht:txt.length<=65536) (x1:ByteArray) (hs:∀ s∈[x1],s.size<=140737488289792) :
 Calls Tryz.prog 48 #[.pointer (some ⟨b,0,none⟩),.slice (some ⟨W.heap.size,0,none⟩) 1 1] (W.alloc (.cells #[.string x1] 9)) (PutP b txt (ln deep [x1.data.toList]) deep fs W):=by
 have h:=p_lineL hw hd ht [x1] (by simp) hs
 rw [ln_cat] at h;exact h
theorem p_line3 {b:Nat} {txt:List UInt8} {deep:Nat} {fs:List Value} {W:World} (hw:Wt b txt deep fs W) (hd:deep<=1000) (ht:txt.length<=65536) (x1 x2 x3:ByteArray) (hs:∀ s∈[x1,x2,x3],s.size<=140737488289792) :
 Calls Tryz.prog 48 #[.pointer (some ⟨b,0,none⟩),.slice (some ⟨W.heap.size,0,none⟩) 3 3] (W.alloc (.cells #[.string x1,.string x2,.string x3] 9)) (PutP b txt (ln deep [x1.data.toList,x2.data.toList,x3.data.toList]) deep fs W):=by
 have h:=p_lineL hw hd ht [x1,x2,x3] (by simp) hs
 rw [ln_cat] at h;exact h
theorem p_line4 {b:Nat} {txt:List UInt8} {deep:Nat} {fs:List Value} {W:World} (hw:Wt b txt deep fs W) (hd:deep<=1000) (ht:txt.length<=65536) (x1 x2 x3 x4:ByteArray) (hs:∀ s∈[x1,x2,x3,x4],s.size<=140737488289792) :
 Calls Tryz.prog 48 #[.pointer (some ⟨b,0,none⟩),.slice (some ⟨W.heap.size,0,none⟩) 4 4] (W.alloc (.cells #[.string x1,.string x2,.string x3,.string x4] 9)) (PutP b txt (ln deep [x1.data.toList,x2.data.toList,x3.data.toList,x4.data.toList]) deep fs W):=by
 have h:=p_lineL hw hd ht [x1,x2,x3,x4] (by simp) hs
 rw [ln_cat] at h;exact h
theorem p_line6 {b:Nat} {txt:List UInt8} {deep:Nat} {fs:List Value} {W:World} (hw:Wt b txt deep fs W) (hd:deep<=1000) (ht:txt.length<=65536) (x1 x2 x3 x4 x5 x6:ByteArray) (hs:∀ s∈[x1,x2,x3,x4,x5,x6],s.size<=140737488289792) :
 Calls Tryz.prog 48 #[.pointer (some ⟨b,0,none⟩),.slice (some ⟨W.heap.size,0,none⟩) 6 6] (W.alloc (.cells #[.string x1,.string x2,.string x3,.string x4,.string x5,.string x6] 9)) (PutP b txt (ln deep [x1.data.toList,x2.data.toList,x3.data.toList,x4.data.toList,x5.data.toList,x6.data.toList]) deep fs W):=by
 have h:=p_lineL hw hd ht [x1,x2,x3,x4,x5,x6] (by simp) hs
 rw [ln_cat] at h;exact h
theorem p_wskip {k:Int} {nm ot:ByteArray} {es:List Ex} {bo el:List St} {ps:Int} {a3 a4 a5:Option Addr} {c3 c4 c5:Nat} {w0 w:World} {b:Nat} {txt:List UInt8} {d:Nat} {fs:List Value} (hd:d<=64) (TT:WTb w0) (hb0:b=w0.heap.size) (hbw:Below b w0 w) (hw:Wt b txt d fs w) (ht:txt.length<=65536) :
 Calls Tryz.prog 113 #[.pointer (some ⟨b,0,none⟩),.agg #[.int .u8 k,.string nm,.string ot,.slice a3 es.length c3,.slice a4 bo.length c4,.slice a5 el.length c5,.int .i64 ps]] w (PutP b txt (ln d [[115,107,105,112,59]]) d fs w):=by
 generalize es.length=n3
 have l:Hid (∀ t W,Wt b t d fs W->t.length<=65536->Calls Tryz.prog 48 #[.pointer (some ⟨b,0,none⟩),.slice (some ⟨W.heap.size,0,none⟩) 1 1] (W.alloc (.cells #[.string ⟨#[115,107,105,112,59]⟩] 9)) (PutP b t (ln d [[115,107,105,112,59]]) d fs W)):=fun t W hw ht=>p_line1 hw (by omega) ht ⟨#[115,107,105,112,59]⟩ (fun s hs=>by
  simp only [List.mem_cons,List.not_mem_nil,or_false] at hs
  subst hs;decide)
 generalize ln d [[115,107,105,112,59]]=q1 at l ⊢;generalize bo.length=n4;generalize el.length=n5;have y:=Hd ht;have g:=hw.lt;have i:Below w.heap.size w (w.alloc (.cells #[.int .u8 k,.string nm,.string ot,.slice a3 n3 c3,.slice a4 n4 c4,.slice a5 n5 c5,.int .i64 ps] 120)):=(Below.refl _ w).alloc (Nat.le_refl _) _;have a:Hid (Sst w0 w b w.heap.size #[.int .u8 k,.string nm,.string ot,.slice a3 n3 c3,.slice a4 n4 c4,.slice a5 n5 c5,.int .i64 ps] txt d fs (w.alloc (.cells #[.int .u8 k,.string nm,.string ot,.slice a3 n3 c3,.slice a4 n4 c4,.slice a5 n5 c5,.int .i64 ps] 120))):=⟨Own.new w _ _,hw.below i,hbw.trans (i.mono (Nat.le_of_lt g)),keep_below i,i.mono (Nat.le_of_lt g)⟩;have v:Hid (w.heap.size≠b):=by rw [Hid];omega
 clear TT hbw hw ht g i hd hb0;obtain ⟨z,f⟩:=Qx (w.alloc (.cells #[.int .u8 k,.string nm,.string ot,.slice a3 n3 c3,.slice a4 n4 c4,.slice a5 n5 c5,.int .i64 ps] 120));rw [<- f] at a;have j:=Hd f;clear f;go_enter Tryz.func113,Tryz.ntmps113;go_upto_region 1 with (fail)
 rw [<- j.out];clear j;go_wp2_with fail;go_at_call 48;refine (l.out _ _ a.out.2.1 y.out).mono ?_;rintro e o q;rcases q.cases with ⟨n,rfl,hw,r,m⟩ | ⟨n,rfl,m⟩
 rotate_left
 · go_wp2_with fail
   exact ⟨rfl,a.out.2.2.2.2.trans m,.inr ⟨by simp at n ⊢;omega,rfl⟩⟩
 have c:=Hd (sst_put a.out v.out hw r m);have p:=Hd n;clear n hw r m q;have x:Hid (PutP b txt (q1) d fs w (.returned (.tuple #[])) o):=⟨c.out.2.2.2.2,.inl ⟨p.out,rfl,c.out.2.1,c.out.2.2.2.1⟩⟩;go_wp2_with fail;exact bodyPost_end (results_none rfl _ _ _) rfl x.out
theorem p_wprint {k:Int} {nm ot:ByteArray} {es:List Ex} {bo el:List St} {ps:Int} {a3 a4 a5:Option Addr} {c3 c4 c5:Nat} {w0 w:World} {b:Nat} {txt:List UInt8} {d:Nat} {fs:List Value} (hd:d<=64) (TT:WTb w0) (hb0:b=w0.heap.size) (hbw:Below b w0 w) (hw:Wt b txt d fs w) (ht:txt.length<=65536) (h3:exsAt (fun _=>True) w0 es a3) {y:Ex} (hes:es=[y]) (hry:rE y 0=true) (hrgy:rgE y) :
 Calls Tryz.prog 112 #[.pointer (some ⟨b,0,none⟩),.agg #[.int .u8 k,.string nm,.string ot,.slice a3 es.length c3,.slice a4 bo.length c4,.slice a5 el.length c5,.int .i64 ps]] w (PutP b txt (ln d [[112,114,105,110,116,32],e0T es,[59]]) d fs w):=by
 subst hes;obtain ⟨H,N,J,C,j,G⟩:=y;rcases h3 with e | ⟨g,q,e,_,e1⟩
 · cases e
 subst e;obtain ⟨⟨B,M,E,K,⟨V,Y,L,U⟩,D⟩,_⟩:=e1;have S:=lt_of_at B;simp only at S;have i:Hid (g<b):=by rw [Hid,hb0];exact S
 have c:=Hd (And.intro B (And.intro M (And.intro E (And.intro K (And.intro L D)))));have n:Hid (∀ W,Below b w0 W->Calls Tryz.prog 154 #[.agg #[.int .u8 H,.int .u8 N,.int .i64 J,.string C,.slice V j.length Y,.int .i64 G]] W (TxP W (tE (.mk H N J C j G)))):=fun W hW=>p_wexpression (.mk H N J C j G) 0 hry hrgy ⟨V,Y,rfl,exsAt_below U (by rw [<- hb0];exact hW)⟩ (TT.below (by rw [<- hb0];exact hW))
 simp only [e0T];change Calls _ _ #[_,.agg #[.int .u8 k,.string nm,.string ot,.slice (some ⟨g,q,none⟩) 1 c3,.slice a4 bo.length c4,.slice a5 el.length c5,.int .i64 ps]] w _;generalize tE (.mk H N J C j G)=te at n ⊢;generalize j.length=mY at n c;clear B M E K L D U S hry hrgy
 have A:Hid (∀ t W,Wt b t d fs W->t.length<=65536->te.length<=65536->Calls Tryz.prog 48 #[.pointer (some ⟨b,0,none⟩),.slice (some ⟨W.heap.size,0,none⟩) 3 3] (W.alloc (.cells #[.string ⟨#[112,114,105,110,116,32]⟩,.string ⟨te.toArray⟩,.string ⟨#[59]⟩] 9)) (PutP b t (ln d [[112,114,105,110,116,32],te,[59]]) d fs W)):=fun t W hw ht l=>p_line3 hw (by omega) ht ⟨#[112,114,105,110,116,32]⟩ ⟨te.toArray⟩ ⟨#[59]⟩ (fun s hs=>by
  simp only [List.mem_cons,List.not_mem_nil,or_false] at hs
  rcases hs with rfl | rfl | rfl
  · decide
  · show te.toArray.size<=_;rw [List.size_toArray];omega
  · decide)
 have x:Hid (te.length<=(ln d [[112,114,105,110,116,32],te,[59]]).length):=ln_mem (by simp)
 generalize ln d [[112,114,105,110,116,32],te,[59]]=q1 at A x ⊢;generalize bo.length=n4;generalize el.length=n5;have HT:=Hd ht;have p:=hw.lt;have r:Below w.heap.size w (w.alloc (.cells #[.int .u8 k,.string nm,.string ot,.slice (some ⟨g,q,none⟩) 1 c3,.slice a4 n4 c4,.slice a5 n5 c5,.int .i64 ps] 120)):=(Below.refl _ w).alloc (Nat.le_refl _) _;have a:Hid (Sst w0 w b w.heap.size #[.int .u8 k,.string nm,.string ot,.slice (some ⟨g,q,none⟩) 1 c3,.slice a4 n4 c4,.slice a5 n5 c5,.int .i64 ps] txt d fs (w.alloc (.cells #[.int .u8 k,.string nm,.string ot,.slice (some ⟨g,q,none⟩) 1 c3,.slice a4 n4 c4,.slice a5 n5 c5,.int .i64 ps] 120))):=⟨Own.new w _ _,hw.below r,hbw.trans (r.mono (Nat.le_of_lt p)),keep_below r,r.mono (Nat.le_of_lt p)⟩;have Z:Hid (w.heap.size≠b):=by rw [Hid];omega
 clear TT hbw hw ht p r hd hb0;obtain ⟨W0,o⟩:=Qx (w.alloc (.cells #[.int .u8 k,.string nm,.string ot,.slice (some ⟨g,q,none⟩) 1 c3,.slice a4 n4 c4,.slice a5 n5 c5,.int .i64 ps] 120));rw [<- o] at a;have z:=Hd o;clear o;go_enter Tryz.func112,Tryz.ntmps112;go_upto_region 1 with (fail)
 rw [<- z.out];clear z;have c3:W0.cell? ⟨w.heap.size,3,none⟩=some (.slice (some ⟨g,q,none⟩) 1 c3):=cr a.out.1;have B:=cb a.out.2.2.1 i.out c.out.1;have M:=cb a.out.2.2.1 i.out c.out.2.1;have E:=cb a.out.2.2.1 i.out c.out.2.2.1;have K:=cb a.out.2.2.1 i.out c.out.2.2.2.1;have L:=cb a.out.2.2.1 i.out c.out.2.2.2.2.1;have D:=cb a.out.2.2.1 i.out c.out.2.2.2.2.2;go_wp2_with fail;go_at_call 154;refine (n.out _ a.out.2.2.1).mono ?_;rintro e ac ⟨v,O⟩;have f:=Hd (sst_below a.out v);clear v;rcases O with ⟨l,rfl⟩ | ⟨l,rfl⟩
 rotate_left
 · have hm := x.out
   go_wp2_with fail;exact ⟨rfl,f.out.2.2.2.2,.inr ⟨by simp;omega,rfl⟩⟩
 have Q:=Hd l;clear l c3 B M E K L D;go_wp2_with fail;go_at_call 48;refine (A.out _ _ f.out.2.1 HT.out Q.out).mono ?_;rintro e P T;rcases T.cases with ⟨I,rfl,hw,X,F⟩ | ⟨I,rfl,F⟩
 rotate_left
 · go_wp2_with fail
   exact ⟨rfl,f.out.2.2.2.2.trans F,.inr ⟨by simp at I ⊢;omega,rfl⟩⟩
 have m:=Hd (sst_put f.out Z.out hw X F);have R:=Hd I;clear I hw X F T;have HF:Hid (PutP b txt (q1) d fs w (.returned (.tuple #[])) P):=⟨m.out.2.2.2.2,.inl ⟨R.out,rfl,m.out.2.1,m.out.2.2.2.1⟩⟩;go_wp2_with fail;exact bodyPost_end (results_none rfl _ _ _) rfl HF.out
theorem p_wloop {k:Int} {nm ot:ByteArray} {es:List Ex} {bo el:List St} {ps:Int} {a3 a4 a5:Option Addr} {c3 c4 c5:Nat} {w0 w:World} {b:Nat} {txt:List UInt8} {d:Nat} {fs:List Value} (hd:d<=64) (TT:WTb w0) (hb0:b=w0.heap.size) (hbw:Below b w0 w) (hw:Wt b txt d fs w) (ht:txt.length<=65536) (h3:exsAt (fun _=>True) w0 es a3) {y:Ex} (hes:es=[y]) (hry:rE y 0=true) (hrgy:rgE y) (HB40:∀ t W,Below b w0 W->Wt b t d fs W->t.length<=65536->Calls Tryz.prog 49 #[.pointer (some ⟨b,0,none⟩),.slice a4 bo.length c4] W (PutP b t (tSs bo (d+1)) d fs W)) :
 Calls Tryz.prog 110 #[.pointer (some ⟨b,0,none⟩),.agg #[.int .u8 k,.string nm,.string ot,.slice a3 es.length c3,.slice a4 bo.length c4,.slice a5 el.length c5,.int .i64 ps]] w (PutP b txt (ln d [[119,104,105,108,101,32,40],e0T es,[41,32,123]]++tSs bo (d+1)++ln d [[125]]) d fs w):=by
 subst hes;obtain ⟨O,T,P,K,n,N⟩:=y;rcases h3 with e | ⟨g,q,e,_,e1⟩
 · cases e
 subst e;obtain ⟨⟨J,S,M,Q,⟨aY,cY,R,y4⟩,L⟩,_⟩:=e1;have lg:=lt_of_at J;simp only at lg;have l:Hid (g<b):=by rw [Hid,hb0];exact lg
 have c:=Hd (And.intro J (And.intro S (And.intro M (And.intro Q (And.intro R L)))));have x:Hid (∀ W,Below b w0 W->Calls Tryz.prog 154 #[.agg #[.int .u8 O,.int .u8 T,.int .i64 P,.string K,.slice aY n.length cY,.int .i64 N]] W (TxP W (tE (.mk O T P K n N)))):=fun W hW=>p_wexpression (.mk O T P K n N) 0 hry hrgy ⟨aY,cY,rfl,exsAt_below y4 (by rw [<- hb0];exact hW)⟩ (TT.below (by rw [<- hb0];exact hW))
 simp only [e0T];change Calls _ _ #[_,.agg #[.int .u8 k,.string nm,.string ot,.slice (some ⟨g,q,none⟩) 1 c3,.slice a4 bo.length c4,.slice a5 el.length c5,.int .i64 ps]] w _;generalize tE (.mk O T P K n N)=te at x ⊢;generalize n.length=mY at x c;clear J S M Q R L y4 lg hry hrgy
 have I:Hid (∀ t W,Wt b t d fs W->t.length<=65536->te.length<=65536->Calls Tryz.prog 48 #[.pointer (some ⟨b,0,none⟩),.slice (some ⟨W.heap.size,0,none⟩) 3 3] (W.alloc (.cells #[.string ⟨#[119,104,105,108,101,32,40]⟩,.string ⟨te.toArray⟩,.string ⟨#[41,32,123]⟩] 9)) (PutP b t (ln d [[119,104,105,108,101,32,40],te,[41,32,123]]) d fs W)):=fun t W hw ht o=>p_line3 hw (by omega) ht ⟨#[119,104,105,108,101,32,40]⟩ ⟨te.toArray⟩ ⟨#[41,32,123]⟩ (fun s hs=>by
  simp only [List.mem_cons,List.not_mem_nil,or_false] at hs
  rcases hs with rfl | rfl | rfl
  · decide
  · show te.toArray.size<=_;rw [List.size_toArray];omega
  · decide)
 have F:Hid (te.length<=(ln d [[119,104,105,108,101,32,40],te,[41,32,123]]).length):=ln_mem (by simp)
 generalize ln d [[119,104,105,108,101,32,40],te,[41,32,123]]=q1 at I F ⊢
 have G:Hid (∀ t W,Wt b t d fs W->t.length<=65536->Calls Tryz.prog 48 #[.pointer (some ⟨b,0,none⟩),.slice (some ⟨W.heap.size,0,none⟩) 1 1] (W.alloc (.cells #[.string ⟨#[125]⟩] 9)) (PutP b t (ln d [[125]]) d fs W)):=fun t W hw ht=>p_line1 hw (by omega) ht ⟨#[125]⟩ (fun s hs=>by
  simp only [List.mem_cons,List.not_mem_nil,or_false] at hs
  subst hs;decide)
 generalize ln d [[125]]=q2 at G ⊢;have v:=Hd HB40;clear HB40;generalize tSs bo (d+1)=r4 at v ⊢;generalize bo.length=n4 at v ⊢;generalize el.length=n5;have HT:=Hd ht;have B:=hw.lt;have D:Below w.heap.size w (w.alloc (.cells #[.int .u8 k,.string nm,.string ot,.slice (some ⟨g,q,none⟩) 1 c3,.slice a4 n4 c4,.slice a5 n5 c5,.int .i64 ps] 120)):=(Below.refl _ w).alloc (Nat.le_refl _) _;have a:Hid (Sst w0 w b w.heap.size #[.int .u8 k,.string nm,.string ot,.slice (some ⟨g,q,none⟩) 1 c3,.slice a4 n4 c4,.slice a5 n5 c5,.int .i64 ps] txt d fs (w.alloc (.cells #[.int .u8 k,.string nm,.string ot,.slice (some ⟨g,q,none⟩) 1 c3,.slice a4 n4 c4,.slice a5 n5 c5,.int .i64 ps] 120))):=⟨Own.new w _ _,hw.below D,hbw.trans (D.mono (Nat.le_of_lt B)),keep_below D,D.mono (Nat.le_of_lt B)⟩;have U:Hid (w.heap.size≠b):=by rw [Hid];omega
 clear TT hbw hw ht B D hd hb0;obtain ⟨W0,z⟩:=Qx (w.alloc (.cells #[.int .u8 k,.string nm,.string ot,.slice (some ⟨g,q,none⟩) 1 c3,.slice a4 n4 c4,.slice a5 n5 c5,.int .i64 ps] 120));rw [<- z] at a;have H:=Hd z;clear z;go_enter Tryz.func110,Tryz.ntmps110;go_upto_region 1 with (fail)
 rw [<- H.out];clear H;have c3:W0.cell? ⟨w.heap.size,3,none⟩=some (.slice (some ⟨g,q,none⟩) 1 c3):=cr a.out.1;have J:=cb a.out.2.2.1 l.out c.out.1;have S:=cb a.out.2.2.1 l.out c.out.2.1;have M:=cb a.out.2.2.1 l.out c.out.2.2.1;have Q:=cb a.out.2.2.1 l.out c.out.2.2.2.1;have R:=cb a.out.2.2.1 l.out c.out.2.2.2.2.1;have L:=cb a.out.2.2.1 l.out c.out.2.2.2.2.2;go_wp2_with fail;go_at_call 154;refine (x.out _ a.out.2.2.1).mono ?_;rintro e ak ⟨E,V⟩;have j:=Hd (sst_below a.out E);clear E;rcases V with ⟨o,rfl⟩ | ⟨o,rfl⟩
 rotate_left
 · have hm := F.out
   go_wp2_with fail;exact ⟨rfl,j.out.2.2.2.2,.inr ⟨by simp;omega,rfl⟩⟩
 have aa:=Hd o;clear o c3 J S M Q R L;go_wp2_with fail;go_at_call 48;refine (I.out _ _ j.out.2.1 HT.out aa.out).mono ?_;rintro e Y p;rcases p.cases with ⟨i,rfl,hw,r,f⟩ | ⟨i,rfl,f⟩
 rotate_left
 · go_wp2_with fail
   exact ⟨rfl,j.out.2.2.2.2.trans f,.inr ⟨by simp at i ⊢;omega,rfl⟩⟩
 have m:=Hd (sst_put j.out U.out hw r f);have ab:=Hd i;clear i hw r f p;have c4:Y.cell? ⟨w.heap.size,4,none⟩=some (.slice a4 n4 c4):=cr m.out.1;go_wp2_with fail;go_at_call 49;refine (v.out _ _ m.out.2.2.1 m.out.2.1 ab.out).mono ?_;rintro e ao p;rcases p.cases with ⟨i,rfl,hw,r,f⟩ | ⟨i,rfl,f⟩
 rotate_left
 · go_wp2_with fail
   exact ⟨rfl,m.out.2.2.2.2.trans f,.inr ⟨by simp at i ⊢;omega,rfl⟩⟩
 have A:=Hd (sst_put m.out U.out hw r f);have Z:=Hd i;clear i hw r f p c4;go_wp2_with fail;go_at_call 48;refine (G.out _ _ A.out.2.1 Z.out).mono ?_;rintro e X p;rcases p.cases with ⟨i,rfl,hw,r,f⟩ | ⟨i,rfl,f⟩
 rotate_left
 · go_wp2_with fail
   exact ⟨rfl,A.out.2.2.2.2.trans f,.inr ⟨by simp at i ⊢;omega,rfl⟩⟩
 have C:=Hd (sst_put A.out U.out hw r f);have ae:=Hd i;clear i hw r f p;have he:txt++(q1++r4++q2)=txt++q1++r4++q2:=by simp
 have HF:Hid (PutP b txt (q1++r4++q2) d fs w (.returned (.tuple #[])) X):=⟨C.out.2.2.2.2,.inl ⟨by rw [he];exact ae.out,rfl,by rw [he];exact C.out.2.1,C.out.2.2.2.1⟩⟩
 clear he;go_wp2_with fail;exact bodyPost_end (results_none rfl _ _ _) rfl HF.out
theorem p_wguard {k:Int} {nm ot:ByteArray} {es:List Ex} {bo el:List St} {ps:Int} {a3 a4 a5:Option Addr} {c3 c4 c5:Nat} {w0 w:World} {b:Nat} {txt:List UInt8} {d:Nat} {fs:List Value} (hd:d<=64) (TT:WTb w0) (hb0:b=w0.heap.size) (hbw:Below b w0 w) (hw:Wt b txt d fs w) (ht:txt.length<=65536) (HB40:∀ t W,Below b w0 W->Wt b t d fs W->t.length<=65536->Calls Tryz.prog 49 #[.pointer (some ⟨b,0,none⟩),.slice a4 bo.length c4] W (PutP b t (tSs bo (d+1)) d fs W)) (hnm:nm.size<=140737488289792) :
 Calls Tryz.prog 111 #[.pointer (some ⟨b,0,none⟩),.agg #[.int .u8 k,.string nm,.string ot,.slice a3 es.length c3,.slice a4 bo.length c4,.slice a5 el.length c5,.int .i64 ps]] w (PutP b txt (ln d [[108,111,99,107,32],nm.data.toList,[32,123]]++tSs bo (d+1)++ln d [[125]]) d fs w):=by
 generalize es.length=n3
 have x:Hid (∀ t W,Wt b t d fs W->t.length<=65536->Calls Tryz.prog 48 #[.pointer (some ⟨b,0,none⟩),.slice (some ⟨W.heap.size,0,none⟩) 3 3] (W.alloc (.cells #[.string ⟨#[108,111,99,107,32]⟩,.string nm,.string ⟨#[32,123]⟩] 9)) (PutP b t (ln d [[108,111,99,107,32],nm.data.toList,[32,123]]) d fs W)):=fun t W hw ht=>p_line3 hw (by omega) ht ⟨#[108,111,99,107,32]⟩ nm ⟨#[32,123]⟩ (fun s hs=>by
  simp only [List.mem_cons,List.not_mem_nil,or_false] at hs
  rcases hs with rfl | rfl | rfl
  · decide
  · exact hnm
  · decide)
 generalize ln d [[108,111,99,107,32],nm.data.toList,[32,123]]=q1 at x ⊢
 have r:Hid (∀ t W,Wt b t d fs W->t.length<=65536->Calls Tryz.prog 48 #[.pointer (some ⟨b,0,none⟩),.slice (some ⟨W.heap.size,0,none⟩) 1 1] (W.alloc (.cells #[.string ⟨#[125]⟩] 9)) (PutP b t (ln d [[125]]) d fs W)):=fun t W hw ht=>p_line1 hw (by omega) ht ⟨#[125]⟩ (fun s hs=>by
  simp only [List.mem_cons,List.not_mem_nil,or_false] at hs
  subst hs;decide)
 generalize ln d [[125]]=q2 at r ⊢;have l:=Hd HB40;clear HB40;generalize tSs bo (d+1)=r4 at l ⊢;generalize bo.length=n4 at l ⊢;generalize el.length=n5;have G:=Hd ht;have o:=hw.lt;have q:Below w.heap.size w (w.alloc (.cells #[.int .u8 k,.string nm,.string ot,.slice a3 n3 c3,.slice a4 n4 c4,.slice a5 n5 c5,.int .i64 ps] 120)):=(Below.refl _ w).alloc (Nat.le_refl _) _;have g:Hid (Sst w0 w b w.heap.size #[.int .u8 k,.string nm,.string ot,.slice a3 n3 c3,.slice a4 n4 c4,.slice a5 n5 c5,.int .i64 ps] txt d fs (w.alloc (.cells #[.int .u8 k,.string nm,.string ot,.slice a3 n3 c3,.slice a4 n4 c4,.slice a5 n5 c5,.int .i64 ps] 120))):=⟨Own.new w _ _,hw.below q,hbw.trans (q.mono (Nat.le_of_lt o)),keep_below q,q.mono (Nat.le_of_lt o)⟩;have y:Hid (w.heap.size≠b):=by rw [Hid];omega
 clear TT hbw hw ht o q hd hb0 hnm;obtain ⟨I,m⟩:=Qx (w.alloc (.cells #[.int .u8 k,.string nm,.string ot,.slice a3 n3 c3,.slice a4 n4 c4,.slice a5 n5 c5,.int .i64 ps] 120));rw [<- m] at g;have v:=Hd m;clear m;go_enter Tryz.func111,Tryz.ntmps111;go_upto_region 1 with (fail)
 rw [<- v.out];clear v;have H:I.cell? ⟨w.heap.size,1,none⟩=some (.string nm):=cr g.out.1;go_wp2_with fail;go_at_call 48;refine (x.out _ _ g.out.2.1 G.out).mono ?_;rintro e A i;rcases i.cases with ⟨c,rfl,hw,j,a⟩ | ⟨c,rfl,a⟩
 rotate_left
 · go_wp2_with fail
   exact ⟨rfl,g.out.2.2.2.2.trans a,.inr ⟨by simp at c ⊢;omega,rfl⟩⟩
 have f:=Hd (sst_put g.out y.out hw j a);have C:=Hd c;clear c hw j a i H;have c4:A.cell? ⟨w.heap.size,4,none⟩=some (.slice a4 n4 c4):=cr f.out.1;go_wp2_with fail;go_at_call 49;refine (l.out _ _ f.out.2.2.1 f.out.2.1 C.out).mono ?_;rintro e J i;rcases i.cases with ⟨c,rfl,hw,j,a⟩ | ⟨c,rfl,a⟩
 rotate_left
 · go_wp2_with fail
   exact ⟨rfl,f.out.2.2.2.2.trans a,.inr ⟨by simp at c ⊢;omega,rfl⟩⟩
 have n:=Hd (sst_put f.out y.out hw j a);have B:=Hd c;clear c hw j a i c4;go_wp2_with fail;go_at_call 48;refine (r.out _ _ n.out.2.1 B.out).mono ?_;rintro e z i;rcases i.cases with ⟨c,rfl,hw,j,a⟩ | ⟨c,rfl,a⟩
 rotate_left
 · go_wp2_with fail
   exact ⟨rfl,n.out.2.2.2.2.trans a,.inr ⟨by simp at c ⊢;omega,rfl⟩⟩
 have p:=Hd (sst_put n.out y.out hw j a);have E:=Hd c;clear c hw j a i;have D:txt++(q1++r4++q2)=txt++q1++r4++q2:=by simp
 have F:Hid (PutP b txt (q1++r4++q2) d fs w (.returned (.tuple #[])) z):=⟨p.out.2.2.2.2,.inl ⟨by rw [D];exact E.out,rfl,by rw [D];exact p.out.2.1,p.out.2.2.2.1⟩⟩
 clear D;go_wp2_with fail;exact bodyPost_end (results_none rfl _ _ _) rfl F.out
open Go.RowKit
set_option linter.unusedVariables false
set_option maxRecDepth 100000
theorem p_wchoice2 {k:Int} {nm ot:ByteArray} {es:List Ex} {bo el:List St} {ps:Int} {a3 a4 a5:Option Addr} {c3 c4 c5:Nat} {w0 w:World} {b:Nat} {txt:List UInt8} {d:Nat} {fs:List Value} (hd:d<=64) (TT:WTb w0) (hb0:b=w0.heap.size) (hbw:Below b w0 w) (hw:Wt b txt d fs w) (ht:txt.length<=65536) (h3:exsAt (fun _=>True) w0 es a3) {y:Ex} (hes:es=[y]) (hry:rE y 0=true) (hrgy:rgE y) (HB40:∀ t W,Below b w0 W->Wt b t d fs W->t.length<=65536->Calls Tryz.prog 49 #[.pointer (some ⟨b,0,none⟩),.slice a4 bo.length c4] W (PutP b t (tSs bo (d+1)) d fs W)) (HB50:∀ t W,Below b w0 W->Wt b t d fs W->t.length<=65536->Calls Tryz.prog 49 #[.pointer (some ⟨b,0,none⟩),.slice a5 el.length c5] W (PutP b t (tSs el (d+1)) d fs W)) (hel:0<(el.length:Int)) :
 Calls Tryz.prog 109 #[.pointer (some ⟨b,0,none⟩),.agg #[.int .u8 k,.string nm,.string ot,.slice a3 es.length c3,.slice a4 bo.length c4,.slice a5 el.length c5,.int .i64 ps]] w (PutP b txt (ln d [[105,102,32,40],e0T es,[41,32,123]]++tSs bo (d+1)++ln d [[125,32,101,108,115,101,32,123]]++tSs el (d+1)++ln d [[125]]) d fs w):=by
 subst hes;obtain ⟨T,Z,U,P,p,S⟩:=y;rcases h3 with e | ⟨g,q,e,_,e1⟩
 · cases e
 subst e;obtain ⟨⟨O,Y,R,V,⟨aY,cY,X,y4⟩,Q⟩,_⟩:=e1;have lg:=lt_of_at O;simp only at lg;have n:Hid (g<b):=by rw [Hid,hb0];exact lg
 have i:=Hd (And.intro O (And.intro Y (And.intro R (And.intro V (And.intro X Q)))));have A:Hid (∀ W,Below b w0 W->Calls Tryz.prog 154 #[.agg #[.int .u8 T,.int .u8 Z,.int .i64 U,.string P,.slice aY p.length cY,.int .i64 S]] W (TxP W (tE (.mk T Z U P p S)))):=fun W hW=>p_wexpression (.mk T Z U P p S) 0 hry hrgy ⟨aY,cY,rfl,exsAt_below y4 (by rw [<- hb0];exact hW)⟩ (TT.below (by rw [<- hb0];exact hW))
 simp only [e0T];change Calls _ _ #[_,.agg #[.int .u8 k,.string nm,.string ot,.slice (some ⟨g,q,none⟩) 1 c3,.slice a4 bo.length c4,.slice a5 el.length c5,.int .i64 ps]] w _;generalize tE (.mk T Z U P p S)=te at A ⊢;generalize p.length=mY at A i;clear O Y R V X Q y4 lg hry hrgy
 have N:Hid (∀ t W,Wt b t d fs W->t.length<=65536->te.length<=65536->Calls Tryz.prog 48 #[.pointer (some ⟨b,0,none⟩),.slice (some ⟨W.heap.size,0,none⟩) 3 3] (W.alloc (.cells #[.string ⟨#[105,102,32,40]⟩,.string ⟨te.toArray⟩,.string ⟨#[41,32,123]⟩] 9)) (PutP b t (ln d [[105,102,32,40],te,[41,32,123]]) d fs W)):=fun t W hw ht v=>p_line3 hw (by omega) ht ⟨#[105,102,32,40]⟩ ⟨te.toArray⟩ ⟨#[41,32,123]⟩ (fun s hs=>by
  simp only [List.mem_cons,List.not_mem_nil,or_false] at hs
  rcases hs with rfl | rfl | rfl
  · decide
  · show te.toArray.size<=_;rw [List.size_toArray];omega
  · decide)
 have J:Hid (te.length<=(ln d [[105,102,32,40],te,[41,32,123]]).length):=ln_mem (by simp)
 generalize ln d [[105,102,32,40],te,[41,32,123]]=q1 at N J ⊢
 have K:Hid (∀ t W,Wt b t d fs W->t.length<=65536->Calls Tryz.prog 48 #[.pointer (some ⟨b,0,none⟩),.slice (some ⟨W.heap.size,0,none⟩) 1 1] (W.alloc (.cells #[.string ⟨#[125,32,101,108,115,101,32,123]⟩] 9)) (PutP b t (ln d [[125,32,101,108,115,101,32,123]]) d fs W)):=fun t W hw ht=>p_line1 hw (by omega) ht ⟨#[125,32,101,108,115,101,32,123]⟩ (fun s hs=>by
  simp only [List.mem_cons,List.not_mem_nil,or_false] at hs
  subst hs;decide)
 generalize ln d [[125,32,101,108,115,101,32,123]]=q2 at K ⊢
 have G:Hid (∀ t W,Wt b t d fs W->t.length<=65536->Calls Tryz.prog 48 #[.pointer (some ⟨b,0,none⟩),.slice (some ⟨W.heap.size,0,none⟩) 1 1] (W.alloc (.cells #[.string ⟨#[125]⟩] 9)) (PutP b t (ln d [[125]]) d fs W)):=fun t W hw ht=>p_line1 hw (by omega) ht ⟨#[125]⟩ (fun s hs=>by
  simp only [List.mem_cons,List.not_mem_nil,or_false] at hs
  subst hs;decide)
 generalize ln d [[125]]=q3 at G ⊢;have z:=Hd HB40;clear HB40;generalize tSs bo (d+1)=r4 at z ⊢;have M:=Hd HB50;clear HB50;generalize tSs el (d+1)=r5 at M ⊢;generalize bo.length=n4 at z ⊢;generalize el.length=n5 at *;have HT:=Hd ht;have E:=hw.lt;have H:Below w.heap.size w (w.alloc (.cells #[.int .u8 k,.string nm,.string ot,.slice (some ⟨g,q,none⟩) 1 c3,.slice a4 n4 c4,.slice a5 n5 c5,.int .i64 ps] 120)):=(Below.refl _ w).alloc (Nat.le_refl _) _;have f:Hid (Sst w0 w b w.heap.size #[.int .u8 k,.string nm,.string ot,.slice (some ⟨g,q,none⟩) 1 c3,.slice a4 n4 c4,.slice a5 n5 c5,.int .i64 ps] txt d fs (w.alloc (.cells #[.int .u8 k,.string nm,.string ot,.slice (some ⟨g,q,none⟩) 1 c3,.slice a4 n4 c4,.slice a5 n5 c5,.int .i64 ps] 120))):=⟨Own.new w _ _,hw.below H,hbw.trans (H.mono (Nat.le_of_lt E)),keep_below H,H.mono (Nat.le_of_lt E)⟩;have F:Hid (w.heap.size≠b):=by rw [Hid];omega
 clear TT hbw hw ht E H hd hb0;obtain ⟨W0,C⟩:=Qx (w.alloc (.cells #[.int .u8 k,.string nm,.string ot,.slice (some ⟨g,q,none⟩) 1 c3,.slice a4 n4 c4,.slice a5 n5 c5,.int .i64 ps] 120));rw [<- C] at f;have L:=Hd C;clear C;go_enter Tryz.func109,Tryz.ntmps109;go_upto_region 1 with (fail)
 rw [<- L.out];clear L;have c3:W0.cell? ⟨w.heap.size,3,none⟩=some (.slice (some ⟨g,q,none⟩) 1 c3):=cr f.out.1;have O:=cb f.out.2.2.1 n.out i.out.1;have Y:=cb f.out.2.2.1 n.out i.out.2.1;have R:=cb f.out.2.2.1 n.out i.out.2.2.1;have V:=cb f.out.2.2.1 n.out i.out.2.2.2.1;have X:=cb f.out.2.2.1 n.out i.out.2.2.2.2.1;have Q:=cb f.out.2.2.1 n.out i.out.2.2.2.2.2;go_wp2_with fail;go_at_call 154;refine (A.out _ f.out.2.2.1).mono ?_;rintro e av ⟨I,ab⟩;have l:=Hd (sst_below f.out I);clear I;rcases ab with ⟨v,rfl⟩ | ⟨v,rfl⟩
 rotate_left
 · have hm := J.out
   go_wp2_with fail;exact ⟨rfl,l.out.2.2.2.2,.inr ⟨by simp;omega,rfl⟩⟩
 have ai:=Hd v;clear v c3 O Y R V X Q;go_wp2_with fail;go_at_call 48;refine (N.out _ _ l.out.2.1 HT.out ai.out).mono ?_;rintro e af j;rcases j.cases with ⟨c,rfl,hw,m,a⟩ | ⟨c,rfl,a⟩
 rotate_left
 · go_wp2_with fail
   exact ⟨rfl,l.out.2.2.2.2.trans a,.inr ⟨by simp at c ⊢;omega,rfl⟩⟩
 have o:=Hd (sst_put l.out F.out hw m a);have aj:=Hd c;clear c hw m a j;have c4:af.cell? ⟨w.heap.size,4,none⟩=some (.slice a4 n4 c4):=cr o.out.1;go_wp2_with fail;go_at_call 49;refine (z.out _ _ o.out.2.2.1 o.out.2.1 aj.out).mono ?_;rintro e ag j;rcases j.cases with ⟨c,rfl,hw,m,a⟩ | ⟨c,rfl,a⟩
 rotate_left
 · go_wp2_with fail
   exact ⟨rfl,o.out.2.2.2.2.trans a,.inr ⟨by simp at c ⊢;omega,rfl⟩⟩
 have x:=Hd (sst_put o.out F.out hw m a);have ah:=Hd c;clear c hw m a j c4;have c5:ag.cell? ⟨w.heap.size,5,none⟩=some (.slice a5 n5 c5):=cr x.out.1;go_wp2_with fail;go_at_call 48;refine (K.out _ _ x.out.2.1 ah.out).mono ?_;rintro e ac j;rcases j.cases with ⟨c,rfl,hw,m,a⟩ | ⟨c,rfl,a⟩
 rotate_left
 · go_wp2_with fail
   exact ⟨rfl,x.out.2.2.2.2.trans a,.inr ⟨by simp at c ⊢;omega,rfl⟩⟩
 have r:=Hd (sst_put x.out F.out hw m a);have an:=Hd c;clear c hw m a j c5;have c5:ac.cell? ⟨w.heap.size,5,none⟩=some (.slice a5 n5 c5):=cr r.out.1;go_wp2_with fail;go_at_call 49;refine (M.out _ _ r.out.2.2.1 r.out.2.1 an.out).mono ?_;rintro e ax j;rcases j.cases with ⟨c,rfl,hw,m,a⟩ | ⟨c,rfl,a⟩
 rotate_left
 · go_wp2_with fail
   exact ⟨rfl,r.out.2.2.2.2.trans a,.inr ⟨by simp at c ⊢;omega,rfl⟩⟩
 have B:=Hd (sst_put r.out F.out hw m a);have aa:=Hd c;clear c hw m a j c5;go_wp2_with fail;go_at_call 48;refine (G.out _ _ B.out.2.1 aa.out).mono ?_;rintro e ae j;rcases j.cases with ⟨c,rfl,hw,m,a⟩ | ⟨c,rfl,a⟩
 rotate_left
 · go_wp2_with fail
   exact ⟨rfl,B.out.2.2.2.2.trans a,.inr ⟨by simp at c ⊢;omega,rfl⟩⟩
 have D:=Hd (sst_put B.out F.out hw m a);have ad:=Hd c;clear c hw m a j;have he:txt++(q1++r4++q2++r5++q3)=txt++q1++r4++q2++r5++q3:=by simp
 have HF:Hid (PutP b txt (q1++r4++q2++r5++q3) d fs w (.returned (.tuple #[])) ae):=⟨D.out.2.2.2.2,.inl ⟨by rw [he];exact ad.out,rfl,by rw [he];exact D.out.2.1,D.out.2.2.2.1⟩⟩
 clear he;go_wp2_with fail;exact bodyPost_end (results_none rfl _ _ _) rfl HF.out
theorem p_wchoice1 {k:Int} {nm ot:ByteArray} {es:List Ex} {bo el:List St} {ps:Int} {a3 a4 a5:Option Addr} {c3 c4 c5:Nat} {w0 w:World} {b:Nat} {txt:List UInt8} {d:Nat} {fs:List Value} (hd:d<=64) (TT:WTb w0) (hb0:b=w0.heap.size) (hbw:Below b w0 w) (hw:Wt b txt d fs w) (ht:txt.length<=65536) (h3:exsAt (fun _=>True) w0 es a3) {y:Ex} (hes:es=[y]) (hry:rE y 0=true) (hrgy:rgE y) (HB40:∀ t W,Below b w0 W->Wt b t d fs W->t.length<=65536->Calls Tryz.prog 49 #[.pointer (some ⟨b,0,none⟩),.slice a4 bo.length c4] W (PutP b t (tSs bo (d+1)) d fs W)) (hel:¬ 0<(el.length:Int)) :
 Calls Tryz.prog 109 #[.pointer (some ⟨b,0,none⟩),.agg #[.int .u8 k,.string nm,.string ot,.slice a3 es.length c3,.slice a4 bo.length c4,.slice a5 el.length c5,.int .i64 ps]] w (PutP b txt (ln d [[105,102,32,40],e0T es,[41,32,123]]++tSs bo (d+1)++ln d [[125]]) d fs w):=by
 subst hes;obtain ⟨O,T,P,K,n,N⟩:=y;rcases h3 with e | ⟨g,q,e,_,e1⟩
 · cases e
 subst e;obtain ⟨⟨J,S,M,Q,⟨aY,cY,R,y4⟩,L⟩,_⟩:=e1;have lg:=lt_of_at J;simp only at lg;have l:Hid (g<b):=by rw [Hid,hb0];exact lg
 have c:=Hd (And.intro J (And.intro S (And.intro M (And.intro Q (And.intro R L)))));have z:Hid (∀ W,Below b w0 W->Calls Tryz.prog 154 #[.agg #[.int .u8 O,.int .u8 T,.int .i64 P,.string K,.slice aY n.length cY,.int .i64 N]] W (TxP W (tE (.mk O T P K n N)))):=fun W hW=>p_wexpression (.mk O T P K n N) 0 hry hrgy ⟨aY,cY,rfl,exsAt_below y4 (by rw [<- hb0];exact hW)⟩ (TT.below (by rw [<- hb0];exact hW))
 simp only [e0T];change Calls _ _ #[_,.agg #[.int .u8 k,.string nm,.string ot,.slice (some ⟨g,q,none⟩) 1 c3,.slice a4 bo.length c4,.slice a5 el.length c5,.int .i64 ps]] w _;generalize tE (.mk O T P K n N)=te at z ⊢;generalize n.length=mY at z c;clear J S M Q R L y4 lg hry hrgy
 have I:Hid (∀ t W,Wt b t d fs W->t.length<=65536->te.length<=65536->Calls Tryz.prog 48 #[.pointer (some ⟨b,0,none⟩),.slice (some ⟨W.heap.size,0,none⟩) 3 3] (W.alloc (.cells #[.string ⟨#[105,102,32,40]⟩,.string ⟨te.toArray⟩,.string ⟨#[41,32,123]⟩] 9)) (PutP b t (ln d [[105,102,32,40],te,[41,32,123]]) d fs W)):=fun t W hw ht o=>p_line3 hw (by omega) ht ⟨#[105,102,32,40]⟩ ⟨te.toArray⟩ ⟨#[41,32,123]⟩ (fun s hs=>by
  simp only [List.mem_cons,List.not_mem_nil,or_false] at hs
  rcases hs with rfl | rfl | rfl
  · decide
  · show te.toArray.size<=_;rw [List.size_toArray];omega
  · decide)
 have F:Hid (te.length<=(ln d [[105,102,32,40],te,[41,32,123]]).length):=ln_mem (by simp)
 generalize ln d [[105,102,32,40],te,[41,32,123]]=q1 at I F ⊢
 have G:Hid (∀ t W,Wt b t d fs W->t.length<=65536->Calls Tryz.prog 48 #[.pointer (some ⟨b,0,none⟩),.slice (some ⟨W.heap.size,0,none⟩) 1 1] (W.alloc (.cells #[.string ⟨#[125]⟩] 9)) (PutP b t (ln d [[125]]) d fs W)):=fun t W hw ht=>p_line1 hw (by omega) ht ⟨#[125]⟩ (fun s hs=>by
  simp only [List.mem_cons,List.not_mem_nil,or_false] at hs
  subst hs;decide)
 generalize ln d [[125]]=q2 at G ⊢;have x:=Hd HB40;clear HB40;generalize tSs bo (d+1)=r4 at x ⊢;generalize bo.length=n4 at x ⊢;generalize el.length=n5 at *;have HT:=Hd ht;have B:=hw.lt;have D:Below w.heap.size w (w.alloc (.cells #[.int .u8 k,.string nm,.string ot,.slice (some ⟨g,q,none⟩) 1 c3,.slice a4 n4 c4,.slice a5 n5 c5,.int .i64 ps] 120)):=(Below.refl _ w).alloc (Nat.le_refl _) _;have a:Hid (Sst w0 w b w.heap.size #[.int .u8 k,.string nm,.string ot,.slice (some ⟨g,q,none⟩) 1 c3,.slice a4 n4 c4,.slice a5 n5 c5,.int .i64 ps] txt d fs (w.alloc (.cells #[.int .u8 k,.string nm,.string ot,.slice (some ⟨g,q,none⟩) 1 c3,.slice a4 n4 c4,.slice a5 n5 c5,.int .i64 ps] 120))):=⟨Own.new w _ _,hw.below D,hbw.trans (D.mono (Nat.le_of_lt B)),keep_below D,D.mono (Nat.le_of_lt B)⟩;have U:Hid (w.heap.size≠b):=by rw [Hid];omega
 clear TT hbw hw ht B D hd hb0;obtain ⟨W0,A⟩:=Qx (w.alloc (.cells #[.int .u8 k,.string nm,.string ot,.slice (some ⟨g,q,none⟩) 1 c3,.slice a4 n4 c4,.slice a5 n5 c5,.int .i64 ps] 120));rw [<- A] at a;have H:=Hd A;clear A;go_enter Tryz.func109,Tryz.ntmps109;go_upto_region 1 with (fail)
 rw [<- H.out];clear H;have c3:W0.cell? ⟨w.heap.size,3,none⟩=some (.slice (some ⟨g,q,none⟩) 1 c3):=cr a.out.1;have J:=cb a.out.2.2.1 l.out c.out.1;have S:=cb a.out.2.2.1 l.out c.out.2.1;have M:=cb a.out.2.2.1 l.out c.out.2.2.1;have Q:=cb a.out.2.2.1 l.out c.out.2.2.2.1;have R:=cb a.out.2.2.1 l.out c.out.2.2.2.2.1;have L:=cb a.out.2.2.1 l.out c.out.2.2.2.2.2;go_wp2_with fail;go_at_call 154;refine (z.out _ a.out.2.2.1).mono ?_;rintro e am ⟨E,V⟩;have j:=Hd (sst_below a.out E);clear E;rcases V with ⟨o,rfl⟩ | ⟨o,rfl⟩
 rotate_left
 · have hm := F.out
   go_wp2_with fail;exact ⟨rfl,j.out.2.2.2.2,.inr ⟨by simp;omega,rfl⟩⟩
 have ab:=Hd o;clear o c3 J S M Q R L;go_wp2_with fail;go_at_call 48;refine (I.out _ _ j.out.2.1 HT.out ab.out).mono ?_;rintro e Y r;rcases r.cases with ⟨i,rfl,hw,v,f⟩ | ⟨i,rfl,f⟩
 rotate_left
 · go_wp2_with fail
   exact ⟨rfl,j.out.2.2.2.2.trans f,.inr ⟨by simp at i ⊢;omega,rfl⟩⟩
 have m:=Hd (sst_put j.out U.out hw v f);have ac:=Hd i;clear i hw v f r;have c4:Y.cell? ⟨w.heap.size,4,none⟩=some (.slice a4 n4 c4):=cr m.out.1;go_wp2_with fail;go_at_call 49;refine (x.out _ _ m.out.2.2.1 m.out.2.1 ac.out).mono ?_;rintro e Z r;rcases r.cases with ⟨i,rfl,hw,v,f⟩ | ⟨i,rfl,f⟩
 rotate_left
 · go_wp2_with fail
   exact ⟨rfl,m.out.2.2.2.2.trans f,.inr ⟨by simp at i ⊢;omega,rfl⟩⟩
 have p:=Hd (sst_put m.out U.out hw v f);have aa:=Hd i;clear i hw v f r c4;have c5:Z.cell? ⟨w.heap.size,5,none⟩=some (.slice a5 n5 c5):=cr p.out.1;go_wp2_with fail;go_at_call 48;refine (G.out _ _ p.out.2.1 aa.out).mono ?_;rintro e X r;rcases r.cases with ⟨i,rfl,hw,v,f⟩ | ⟨i,rfl,f⟩
 rotate_left
 · go_wp2_with fail
   exact ⟨rfl,p.out.2.2.2.2.trans f,.inr ⟨by simp at i ⊢;omega,rfl⟩⟩
 have C:=Hd (sst_put p.out U.out hw v f);have af:=Hd i;clear i hw v f r c5;have he:txt++(q1++r4++q2)=txt++q1++r4++q2:=by simp
 have HF:Hid (PutP b txt (q1++r4++q2) d fs w (.returned (.tuple #[])) X):=⟨C.out.2.2.2.2,.inl ⟨by rw [he];exact af.out,rfl,by rw [he];exact C.out.2.1,C.out.2.2.2.1⟩⟩
 clear he;go_wp2_with fail;exact bodyPost_end (results_none rfl _ _ _) rfl HF.out
end Go.Proofs.YtbgfkdiihnidaaaGreatDoor

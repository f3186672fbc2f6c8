import Derived.Test.YtbgfkdiihnidaaaGreatDoorQAN
import Derived.Test.YtbgfkdiihnidaaaGreatDoorQAQ
import Derived.Lib.ItoaLen
set_option maxRecDepth 100000
set_option maxHeartbeats 20000000
namespace Go.Proofs.YtbgfkdiihnidaaaGreatDoor
open Go.RowKit
set_option linter.unusedVariables false
set_option maxRecDepth 100000
theorem gPow:Tryz.prog.globalNamed "internal/strconv.uint64pow10" = some 3:=by kernel_rfl
structure WTb (W:World):Prop where
 pt:PT W
 pow:Lib.TabIs Tryz.prog W "internal/strconv.uint64pow10" .u64 Lib.pow10Tab
 size:3<W.heap.size
theorem WTb.below {W W':World} (T:WTb W) (h:Below W.heap.size W W'):WTb W':=⟨T.pt.below h,var?_below h gPow T.size T.pow,Nat.lt_of_lt_of_le T.size h.size⟩
theorem below_gro (w:World) (k:Nat) (os:Array Obj):Below w.heap.size w (Sort.grow (w.drewN k) os):=by
 refine ⟨rfl,rfl,rfl,?_,fun i hi=>?_⟩
 · show w.heap.size <= (w.heap ++ os).size
   simp
 · show (w.heap ++ os)[i]? = _
   rw [Array.getElem?_append_left hi]
theorem print_any (n:Int) (h0 : -9223372036854775808<=n) (h1:n<=9223372036854775807) (w:World) (T:WTb w) :
 Calls Tryz.prog 13 #[.int .i64 n] w fun e w'=>e=.returned (.string ⟨(Lib.itoa n).toArray⟩)/\Below w.heap.size w w':=by
 have H:=Hd (show Calls Tryz.prog 35 #[.int .i64 n,.int .i64 10] w fun e w'=>e=.returned (.string ⟨(Lib.itoa n).toArray⟩)/\Below w.heap.size w w' from
  (Go.Proofs.Tryz.strconv_FormatInt_10 n h0 h1 w T.pow).mono fun e w' ⟨he,k,os,hw⟩=>⟨he,by rw [hw];exact below_gro w k os⟩)
 obtain ⟨s,a⟩:∃ s:ByteArray,s=⟨(Lib.itoa n).toArray⟩:=⟨_,rfl⟩;rw [<- a] at H ⊢;clear a T;go_enter Tryz.func13,Tryz.ntmps13;go_wp2_with (go_at_call 35;refine (H.out).mono ?_;rintro e w' ⟨rfl,b⟩);go_ret;exact ⟨rfl,b⟩
def marg (d:Nat):List UInt8:=Lib.repeatL [32,32] d
def margS (d:Nat):ByteArray:=⟨(marg d).toArray⟩
theorem marg_len:∀ d,(marg d).length=2*d:=by
 intro d;unfold marg;rw [Lib.repeatL_length];simp;omega
theorem p_marg (d:Nat) (hd:d<=1000000) (w:World):Calls Tryz.prog 115 #[.string ⟨#[32,32]⟩,.int .i64 (d:Int)] w fun e w'=>e=.returned (.string (margS d))/\Below w.heap.size w w':=by
 have:=Go.Proofs.Tryz.strings_Repeat ⟨#[32,32]⟩ d w (by omega) (by show 2*d<=_;omega)
 exact this
theorem PutP.cases {b:Nat} {txt t:List UInt8} {deep:Int} {fs:List Value} {W:World} {e:Ending} {w':World} (h:PutP b txt t deep fs W e w') :
 ((txt++t).length<=65536/\e=.returned (.tuple #[])/\Wt b (txt++t) deep fs w'/\Keep (selW b) W w'/\Below b W w')\/(65536<(txt++t).length/\e=.panicked (errP 4)/\Below b W w'):=by
 obtain ⟨d,⟨a,c,f,g⟩ | ⟨a,c⟩⟩:=h
 · exact .inl ⟨a,c,f,g,d⟩
 · exact .inr ⟨a,c,d⟩
theorem Wt.lt {b:Nat} {txt:List UInt8} {deep:Int} {fs:List Value} {W:World} (h:Wt b txt deep fs W):b<W.heap.size:=by obtain ⟨p,v,h⟩:=h;exact h.1.lt
theorem Wt.below {b:Nat} {txt:List UInt8} {deep:Int} {fs:List Value} {W W':World} (h:Wt b txt deep fs W) (hb:Below W.heap.size W W'):Wt b txt deep fs W':=by
 obtain ⟨p,v,c,g,a,f,d⟩:=h;exact ⟨p,v,c.below hb,g,a,f,row_below d hb⟩
theorem Wt.deep {b:Nat} {txt:List UInt8} {deep:Int} {fs:List Value} {W:World} (h:Wt b txt deep fs W):W.cell? ⟨b,2,none⟩=some (.int .i64 deep):=by
 obtain ⟨p,v,a,_⟩:=h;rw [cell_of_row _ _ 2 _ _ _ a];rfl
theorem keep_below {sel:Nat->Obj->Prop} {W W':World} (h:Below W.heap.size W W'):Keep sel W W':=⟨h.os,h.tape,h.output,h.size,fun k o ho _=>(h.block _ (Array.getElem?_eq_some_iff.1 ho).1).trans ho⟩
theorem sa_one {b:Nat} {W:World} (hb:b<W.heap.size) (s:ByteArray):SA b (W.alloc (.cells #[.string s] 9)) (some ⟨W.heap.size,0,none⟩) [s] :=
 .inr ⟨W.heap.size,#[.string s],rfl,by omega,Own.new W _ _,fun j x hj=>by
  match j,hj with
  | 0, hj => obtain rfl : s = x := by simpa using hj
             rfl⟩
theorem keep_alloc {b:Nat} {W:World} (o:Obj):Keep (selW b) W (W.alloc o):=keep_below ((Below.refl _ W).alloc (Nat.le_refl _) _)
theorem p_put1 {b:Nat} {txt:List UInt8} {deep:Int} {fs:List Value} {W:World} (hw:Wt b txt deep fs W) (ht:txt.length<=65536) (s:ByteArray) (hz:s.size<=140737488289792) :
 Calls Tryz.prog 114 #[.pointer (some ⟨b,0,none⟩),.slice (some ⟨W.heap.size,0,none⟩) 1 1] (W.alloc (.cells #[.string s] 9)) (PutP b txt s.data.toList deep fs W):=by
 have j:cat [s]=s.data.toList:=by simp [cat]
 have h:=p_put (l:=[s]) (c:=1) (hw.below ((Below.refl _ W).alloc (Nat.le_refl _) (.cells #[.string s] 9))) ht (by simp) (fun x hx=>(by simpa using hx:x=s) ▸ hz) (sa_one hw.lt s)
 rw [j] at h;refine h.mono fun e w' ⟨h1,a⟩=>⟨((Below.refl b W).alloc (Nat.le_of_lt hw.lt) _).trans h1,?_⟩
 rcases a with ⟨d,i,g,f⟩ | a
 · exact .inl ⟨d,i,g,(keep_alloc _).trans f⟩
 · exact .inr a
theorem p_line {b:Nat} {txt:List UInt8} {deep:Nat} {fs:List Value} {w:World} (h:Wt b txt deep fs w) (hd:deep<=1000) (ht:txt.length<=65536) {l:List ByteArray} (hl:l.length<=9223372036854775807) (hs:∀ s∈l,s.size<=140737488289792) {a:Option Addr} {c:Nat} (ha:SA b w a l) :
 Calls Tryz.prog 48 #[.pointer (some ⟨b,0,none⟩),.slice a l.length c] w (PutP b txt (marg deep++cat l++[10]) deep fs w):=by
 have P:=h.deep;have E:Hid (∀ W,Calls Tryz.prog 115 #[.string ⟨#[32,32]⟩,.int .i64 (deep:Int)] W fun e w'=>e=.returned (.string (margS deep))/\Below W.heap.size W w'):=fun W=>p_marg deep (by omega) W
 have o:Hid (∀ t W s,Wt b t deep fs W->t.length<=65536->s.size<=140737488289792->Calls Tryz.prog 114 #[.pointer (some ⟨b,0,none⟩),.slice (some ⟨W.heap.size,0,none⟩) 1 1] (W.alloc (.cells #[.string s] 9)) (PutP b t s.data.toList deep fs W)):=fun t W s g ht hz=>p_put1 g ht s hz
 have q:Hid (∀ t W,Wt b t deep fs W->t.length<=65536->SA b W a l->Calls Tryz.prog 114 #[.pointer (some ⟨b,0,none⟩),.slice a l.length c] W (PutP b t (cat l) deep fs W)):=fun t W g ht ha=>p_put g ht hl hs ha
 have x:(margS deep).size<=140737488289792:=by show (marg deep).toArray.size<=_;rw [List.size_toArray,marg_len];omega
 have J:=Hd h;have M:=Hd ha;have L:=Hd ht;have K:=Hd x;have r:(margS deep).data.toList=marg deep:=by simp [margS]
 have j:=Hd r;clear h ha hs ht x r;generalize l.length=n at q ⊢;obtain ⟨D,z⟩:=Qx (marg deep);rw [<- z] at j ⊢;clear z;go_enter Tryz.func48,Tryz.ntmps48;go_wp2_with (first | (go_at_call 115;refine (E.out _).mono ?_;rintro e N ⟨rfl,k⟩))
 go_at_call 114;refine (o.out txt _ _ (J.out.below k) L.out K.out).mono ?_;rintro e R p;have i:Below b w N:=k.mono (Nat.le_of_lt J.out.lt);rcases p.cases with ⟨d,rfl,g,m,f⟩ | ⟨d,rfl,f⟩
 rotate_left
 · rw [j.out] at d
   go_wp2_with fail;exact ⟨rfl,i.trans f,.inr ⟨by simp only [List.length_append] at d ⊢;omega,rfl⟩⟩
 rw [j.out] at d g;have H:=Hd g;have F:=Hd d;have A:=Hd (i.trans f);have y:=Hd ((keep_below (sel:=selW b) k).trans m);clear d g f m k i P j;go_wp2_with fail;go_at_call 114;refine (q.out _ _ H.out F.out (M.out.keep y.out)).mono ?_;rintro e S p;rcases p.cases with ⟨d,rfl,g,m,f⟩ | ⟨d,rfl,f⟩
 rotate_left
 · go_wp2_with fail
   exact ⟨rfl,A.out.trans f,.inr ⟨by simp only [List.length_append] at d ⊢;omega,rfl⟩⟩
 have C:=Hd g;have B:=Hd d;have v:=Hd (A.out.trans f);have I:=Hd (y.out.trans m);clear d g f m;go_wp2_with fail;go_at_call 114;refine (o.out _ _ _ C.out B.out (by decide)).mono ?_
 rintro e Q p;rcases p.cases with ⟨d,rfl,g,m,f⟩ | ⟨d,rfl,f⟩
 rotate_left
 · go_wp2_with fail
   exact ⟨rfl,v.out.trans f,.inr ⟨by simp only [List.length_append] at d ⊢;omega,rfl⟩⟩
 have G:txt++(D++cat l++[10])=txt++D++cat l++[10]:=by simp
 have O:Hid (PutP b txt (D++cat l++[10]) deep fs w (.returned (.tuple #[])) Q):=⟨v.out.trans f,.inl ⟨by rw [G];exact d,rfl,by rw [G];exact g,I.out.trans m⟩⟩
 clear d g f m G;go_wp2_with fail;exact bodyPost_end (results_none rfl _ _ _) rfl O.out
set_option maxRecDepth 100000
def kidT (b:Bool) (t:List UInt8):List UInt8:=bif b then [40]++t++[41] else t
def kid1T (ks:List Ex) (ts:List (List UInt8)):List UInt8:=match ks,ts with | [x],[t]=>kidT (x.kind==4) t | _,_=>[]
def kid2T (o:Int) (ks:List Ex) (ts:List (List UInt8)):List UInt8:=match ks,ts with | [x,y],[t,u]=>kidT (wrL o x) t++([32]++signOf o++[32])++kidT (wrR o y) u | _,_=>[]
def tK (k o wd:Int) (n:ByteArray) (ks:List Ex) (ts:List (List UInt8)):List UInt8 :=
 if k=1 then Lib.itoa wd else if k=2 then n.data.toList else if k=3 then signOf o++kid1T ks ts else if k=4 then kid2T o ks ts else []
mutual
def tE:Ex->List UInt8
 | .mk k o wd n ks _=>tK k o wd n ks (tEs ks)
def tEs:List Ex->List (List UInt8)
 | []=>[]
 | x::r=>tE x::tEs r
end
theorem name_size {n:ByteArray} (h:nameB n=true):n.size<=32:=by
 unfold nameB at h;simp only [Bool.and_eq_true,decide_eq_true_eq] at h;exact h.2.1
theorem sign_len (o:Int):(signOf o).length<=2:=by
 unfold signOf;split
 · simp
 · have : ∀ i, i < 19 -> (sgn.getD i []).length <= 2 := by decide
   exact this _ (by omega)
def Xst (w0 w:World) (b gx:Nat) (row:Array Value) (t:List UInt8) (deep:Int) (fs:List Value) (W:World):Prop :=
 Own W gx 167 row/\Wt b t deep fs W/\Below b w0 W/\Keep (selW b) w W/\Below b w W
theorem not_u8E {cs:Array Value} : ¬ IsTy 5 (.cells cs 167):=by
 rintro ⟨c,f,h⟩;cases h
section
variable {w0 w W W':World} {b gx:Nat} {row:Array Value} {t:List UInt8} {deep:Int} {fs:List Value}
theorem xst_below (h:Xst w0 w b gx row t deep fs W) (hb:Below W.heap.size W W'):Xst w0 w b gx row t deep fs W':=by
 obtain ⟨f,c,d,i,g⟩:=h;have a:Below b W W':=hb.mono (Nat.le_of_lt c.lt);exact ⟨f.below hb,c.below hb,d.trans a,i.trans (keep_below hb),g.trans a⟩
theorem xst_put (h:Xst w0 w b gx row t deep fs W) (hg:gx≠b) {t':List UInt8} (hw:Wt b t' deep fs W') (hk:Keep (selW b) W W') (hb:Below b W W'):Xst w0 w b gx row t' deep fs W':=by
 obtain ⟨c,g,a,f,d⟩:=h;exact ⟨hk.block _ _ c ⟨hg,not_u8E⟩,hw,a.trans hb,f.trans hk,d.trans hb⟩
end
def WrE (x:Ex):Prop:=∀ d,rE x d=true->rgE x->∀ (v:Value) (w0 w:World) (b:Nat) (txt:List UInt8) (deep:Int) (fs:List Value),exA w0 x v->WTb w0->b=w0.heap.size->Below b w0 w->Wt b txt deep fs w->txt.length<=65536 ->
 Calls Tryz.prog 185 #[.pointer (some ⟨b,0,none⟩),v] w (PutP b txt (tE x) deep fs w)
theorem p_kid (x:Ex) (HX:WrE x) (wr:Bool) (d:Int) (hr:rE x d=true) (hrg:rgE x) {v:Value} {w0 w:World} {b:Nat} {txt:List UInt8} {deep:Int} {fs:List Value} (hv:exA w0 x v) (TT:WTb w0) (hb0:b=w0.heap.size) (hbw:Below b w0 w) (hw:Wt b txt deep fs w) (ht:txt.length<=65536) :
 Calls Tryz.prog 208 #[.pointer (some ⟨b,0,none⟩),v,.bool wr] w (PutP b txt (kidT wr (tE x)) deep fs w):=by
 have C:Hid (∀ t W,Below b w0 W->Wt b t deep fs W->t.length<=65536->Calls Tryz.prog 185 #[.pointer (some ⟨b,0,none⟩),v] W (PutP b t (tE x) deep fs W)):=fun t W h1 h2 h3=>HX d hr hrg v w0 W b t deep fs hv TT hb0 h1 h2 h3
 have A:Hid (∀ t W s,Wt b t deep fs W->t.length<=65536->s.size<=140737488289792->Calls Tryz.prog 114 #[.pointer (some ⟨b,0,none⟩),.slice (some ⟨W.heap.size,0,none⟩) 1 1] (W.alloc (.cells #[.string s] 9)) (PutP b t s.data.toList deep fs W)):=fun t W s hw ht hz=>p_put1 hw ht s hz
 obtain ⟨a,l,rfl,_⟩:=hv;generalize x.kind=k,x.op=o,x.wd=wd,x.name=n,x.kids.length=m,x.pos=ps at C ⊢;generalize tE x=tx at C ⊢;have J:=Hd ht;have z:=hw.lt;have B:Below w.heap.size w (w.alloc (.cells #[.int .u8 k,.int .u8 o,.int .i64 wd,.string n,.slice a m l,.int .i64 ps] 167)):=(Below.refl _ w).alloc (Nat.le_refl _) _;have c:Hid (Xst w0 w b w.heap.size #[.int .u8 k,.int .u8 o,.int .i64 wd,.string n,.slice a m l,.int .i64 ps] txt deep fs (w.alloc (.cells #[.int .u8 k,.int .u8 o,.int .i64 wd,.string n,.slice a m l,.int .i64 ps] 167))):=⟨Own.new w _ _,hw.below B,hbw.trans (B.mono (Nat.le_of_lt z)),keep_below B,B.mono (Nat.le_of_lt z)⟩;have I:Hid (w.heap.size≠b):=by rw [Hid];omega
 clear hr hrg TT hb0 hbw hw ht HX z B;obtain ⟨L,q⟩:=Qx (w.alloc (.cells #[.int .u8 k,.int .u8 o,.int .i64 wd,.string n,.slice a m l,.int .i64 ps] 167));rw [<- q] at c;have y:=Hd q;clear q;cases wr with
 | false =>
   show Calls _ _ _ _ (PutP b txt tx deep fs w);have O1:=c.out.1;go_enter Tryz.func208,Tryz.ntmps208;go_upto_region 1 with (fail)
   rw [<- y.out];go_wp2_with (refine ld rowEx rfl rfl rfl O1 rfl ?_);go_at_call 185;refine (C.out _ _ c.out.2.2.1 c.out.2.1 J.out).mono ?_;rintro e H r;rcases r.cases with ⟨g,rfl,hw,j,f⟩ | ⟨g,rfl,f⟩
   rotate_left
   · go_wp2_with fail
     exact ⟨rfl,c.out.2.2.2.2.trans f,.inr ⟨g,rfl⟩⟩
   have D:Hid (PutP b txt tx deep fs w (.returned (.tuple #[])) H):=⟨c.out.2.2.2.2.trans f,.inl ⟨g,rfl,hw,c.out.2.2.2.1.trans j⟩⟩;clear g hw j f;go_wp2_with fail;exact bodyPost_ret (results_none rfl _ _ _) rfl D.out
 | true =>
   show Calls _ _ _ _ (PutP b txt ([40]++tx++[41]) deep fs w);go_enter Tryz.func208,Tryz.ntmps208;go_upto_region 1 with (fail)
   rw [<- y.out];go_wp2_with fail;go_at_call 114;refine (A.out _ _ _ c.out.2.1 J.out (by decide)).mono ?_
   rintro e H r;rcases r.cases with ⟨g,rfl,hw,j,f⟩ | ⟨g,rfl,f⟩
   rotate_left
   · go_wp2_with fail
     exact ⟨rfl,c.out.2.2.2.2.trans f,.inr ⟨by simp only [List.length_append,List.length_cons,List.length_nil] at g ⊢;omega,rfl⟩⟩
   have i:=Hd (xst_put c.out I.out hw j f);have F:=Hd g;clear g hw j f c y;have O1:=i.out.1;go_wp2_with (refine ld rowEx rfl rfl rfl O1 rfl ?_);go_at_call 185;refine (C.out _ _ i.out.2.2.1 i.out.2.1 F.out).mono ?_;rintro e M r;rcases r.cases with ⟨g,rfl,hw,j,f⟩ | ⟨g,rfl,f⟩
   rotate_left
   · go_wp2_with fail
     exact ⟨rfl,i.out.2.2.2.2.trans f,.inr ⟨by simp only [List.length_append,List.length_cons,List.length_nil] at g ⊢;omega,rfl⟩⟩
   have p:=Hd (xst_put i.out I.out hw j f);have E:=Hd g;clear g hw j f O1;go_wp2_with fail;go_at_call 114;refine (A.out _ _ _ p.out.2.1 E.out (by decide)).mono ?_
   rintro e K r;rcases r.cases with ⟨g,rfl,hw,j,f⟩ | ⟨g,rfl,f⟩
   rotate_left
   · go_wp2_with fail
     exact ⟨rfl,p.out.2.2.2.2.trans f,.inr ⟨by simp only [List.length_append,List.length_cons,List.length_nil] at g ⊢;omega,rfl⟩⟩
   have G:txt++([40]++tx++[41])=txt++[40]++tx++[41]:=by simp
   have D:Hid (PutP b txt ([40]++tx++[41]) deep fs w (.returned (.tuple #[])) K):=⟨p.out.2.2.2.2.trans f,.inl ⟨by rw [G];exact g,rfl,by rw [G];exact hw,p.out.2.2.2.1.trans j⟩⟩
   clear g hw j f G;go_wp2_with fail;exact bodyPost_end (results_none rfl _ _ _) rfl D.out
open Go.RowKit
set_option linter.unusedVariables false
set_option maxRecDepth 100000
theorem sa_three {b:Nat} {W:World} (hb:b<W.heap.size) (x y z:ByteArray):SA b (W.alloc (.cells #[.string x,.string y,.string z] 9)) (some ⟨W.heap.size,0,none⟩) [x,y,z] :=
 .inr ⟨W.heap.size,#[.string x,.string y,.string z],rfl,by omega,Own.new W _ _,fun j s hj=>by
  match j,hj with
  | 0, hj => obtain rfl : x = s := by simpa using hj
             rfl
  | 1, hj => obtain rfl : y = s := by simpa using hj
             rfl
  | 2, hj => obtain rfl : z = s := by simpa using hj
             rfl⟩
theorem p_put3 {b:Nat} {txt:List UInt8} {deep:Int} {fs:List Value} {W:World} (hw:Wt b txt deep fs W) (ht:txt.length<=65536) (x y z:ByteArray) (hz:x.size<=140737488289792/\y.size<=140737488289792/\z.size<=140737488289792) :
 Calls Tryz.prog 114 #[.pointer (some ⟨b,0,none⟩),.slice (some ⟨W.heap.size,0,none⟩) 3 3] (W.alloc (.cells #[.string x,.string y,.string z] 9)) (PutP b txt (x.data.toList++y.data.toList++z.data.toList) deep fs W):=by
 have j:cat [x,y,z]=x.data.toList++y.data.toList++z.data.toList:=by simp [cat]
 have h:=p_put (l:=[x,y,z]) (c:=3) (hw.below ((Below.refl _ W).alloc (Nat.le_refl _) (.cells #[.string x,.string y,.string z] 9))) ht (by simp) (fun s hs=>by
  rcases (by simpa using hs:s=x\/s=y\/s=z) with rfl | rfl | rfl
  · exact hz.1
  · exact hz.2.1
  · exact hz.2.2) (sa_three hw.lt x y z)
 rw [j] at h;refine h.mono fun e w' ⟨h1,a⟩=>⟨((Below.refl b W).alloc (Nat.le_of_lt hw.lt) _).trans h1,?_⟩
 rcases a with ⟨d,i,g,f⟩ | a
 · exact .inl ⟨d,i,g,(keep_alloc _).trans f⟩
 · exact .inr a
theorem put_from {w0 w W:World} {b gx:Nat} {row:Array Value} {txt t:List UInt8} {deep:Int} {fs:List Value} {e:Ending} {w':World} (h:Xst w0 w b gx row txt deep fs W) (hp:PutP b txt t deep fs W e w'):PutP b txt t deep fs w e w':=by
 refine ⟨h.2.2.2.2.trans hp.1,?_⟩;rcases hp.2 with ⟨a,f,d,c⟩ | g
 · exact .inl ⟨a,f,d,h.2.2.2.1.trans c⟩
 · exact .inr g
theorem sign_small (o:Int):(⟨(signOf o).toArray⟩:ByteArray).size<=140737488289792:=by
 show (signOf o).toArray.size<=_;rw [List.size_toArray];have:=sign_len o;omega
theorem itoa_small (n:Int) (h : -9223372036854775808<=n/\n<=9223372036854775807):(⟨(Lib.itoa n).toArray⟩:ByteArray).size<=140737488289792:=by
 show (Lib.itoa n).toArray.size<=_;rw [List.size_toArray];have:=Lib.itoa_length_le n h.1 h.2;omega
theorem p_wexpr (x:Ex) (HI:∀ y∈x.kids,WrE y):WrE x:=by
 intro d hr cd v w0 w b X deep T hv TT bh bv B ht;obtain ⟨a,j,rfl,h1⟩:=hv;obtain ⟨k,o,wd,n,R,ps⟩:=x;obtain ⟨U,ho,a3,bm⟩:=cd;change Calls _ _ #[_,.agg #[.int .u8 k,.int .u8 o,.int .i64 wd,.string n,.slice a R.length j,.int .i64 ps]] w _;change ∀ y∈R,WrE y at HI;change exsAt _ w0 R a at h1;simp only [rE,Bool.and_eq_true] at hr;obtain ⟨_,_,bs,M⟩:=hr;have a5:∀ W,Below b w0 W->WTb W:=fun W h=>TT.below (by rw [<- bh];exact h)
 have b3:Hid (∀ W,Below b w0 W->Calls Tryz.prog 13 #[.int .i64 wd] W fun e w'=>e=.returned (.string ⟨(Lib.itoa wd).toArray⟩)/\Below W.heap.size W w'):=fun W h=>print_any wd a3.1 a3.2 W (a5 W h)
 have bw:Hid (∀ W,Below b w0 W->Calls Tryz.prog 207 #[.int .u8 o] W fun e w'=>e=.returned (.string ⟨(signOf o).toArray⟩)/\W=w'):=fun W h=>show_any o ho.1 ho.2 W (a5 W h).pt.1.2
 have bj:Hid (∀ t W s,Wt b t deep T W->t.length<=65536->s.size<=140737488289792->Calls Tryz.prog 114 #[.pointer (some ⟨b,0,none⟩),.slice (some ⟨W.heap.size,0,none⟩) 1 1] (W.alloc (.cells #[.string s] 9)) (PutP b t s.data.toList deep T W)):=fun t W s B ht hz=>p_put1 B ht s hz
 obtain ⟨m,hm⟩:=Qx R.length;rw [<- hm];have HM:=Hd hm;have HI:=Hd HI;have E1:=Hd h1;have HT:=Hd ht;have az:=Hd bm;have HO:=Hd ho;have ce:=Hd a3;have bz:=Hd a5;have bf:=Hd TT;have ad:=Hd bh;have ba:=Hd M;have b6:=Hd bs;have bb:=B.lt;have al:Below w.heap.size w (w.alloc (.cells #[.int .u8 k,.int .u8 o,.int .i64 wd,.string n,.slice a m j,.int .i64 ps] 167)):=(Below.refl _ w).alloc (Nat.le_refl _) _;have D:Hid (Xst w0 w b w.heap.size #[.int .u8 k,.int .u8 o,.int .i64 wd,.string n,.slice a m j,.int .i64 ps] X deep T (w.alloc (.cells #[.int .u8 k,.int .u8 o,.int .i64 wd,.string n,.slice a m j,.int .i64 ps] 167))):=⟨Own.new w _ _,B.below al,bv.trans (al.mono (Nat.le_of_lt bb)),keep_below al,al.mono (Nat.le_of_lt bb)⟩;have HG:Hid (w.heap.size≠b):=by rw [Hid];omega
 clear U ho a3 bm h1 hm bs M a5 TT bh bv B ht bb al;obtain ⟨W0,bi⟩:=Qx (w.alloc (.cells #[.int .u8 k,.int .u8 o,.int .i64 wd,.string n,.slice a m j,.int .i64 ps] 167));rw [<- bi] at D;have am:=Hd bi;clear bi;have c0:W0.cell? ⟨w.heap.size,0,none⟩=some (.int .u8 k):=cr D.out.1;have c1:W0.cell? ⟨w.heap.size,1,none⟩=some (.int .u8 o):=cr D.out.1;have c2:W0.cell? ⟨w.heap.size,2,none⟩=some (.int .i64 wd):=cr D.out.1;have c3:W0.cell? ⟨w.heap.size,3,none⟩=some (.string n):=cr D.out.1;have bp:tE (.mk k o wd n R ps)=tK k o wd n R (tEs R):=by simp only [tE]
 rw [bp];obtain ⟨tx,be⟩:=Qx (tK k o wd n R (tEs R));rw [<- be];have an:=Hd be;clear be bp;by_cases hk1:k=1
 · have N : tx = (⟨(Lib.itoa wd).toArray⟩ : ByteArray).data.toList := by rw [an.out]; unfold tK; rw [if_pos hk1]
   have k1:(k==1)=true:=by simp [hk1]
   clear hk1;go_enter Tryz.func185,Tryz.ntmps185;go_upto_region 1 with (fail)
   rw [<- am.out];go_wp2_with (first | (go_at_call 13;refine (b3.out _ D.out.2.2.1).mono ?_;rintro e w2 ⟨rfl,bo⟩))
   have br:=Hd (xst_below D.out bo);clear bo;go_at_call 114;refine (bj.out _ _ _ br.out.2.1 HT.out (itoa_small wd ce.out)).mono ?_;rw [<- N];clear N;rintro e w3 O;have HF:Hid (PutP b X tx deep T w e w3):=put_from br.out O;rcases O.cases with ⟨A,rfl,B,U,C⟩ | ⟨A,rfl,C⟩
   · clear A B U C O
     go_wp2_with fail;exact bodyPost_end (results_none rfl _ _ _) rfl HF.out
   · clear A C O
     go_wp2_with fail;exact ⟨rfl,HF.out⟩
 have k1:(k==1)=false:=by simp [hk1]
 by_cases hk2:k=2
 · have N : tx = n.data.toList := by rw [an.out]; unfold tK; rw [if_neg hk1, if_pos hk2]
   have k2:(k==2)=true:=by simp [hk2]
   clear hk2;have b4:n.size<=140737488289792:=by
    have h2:=b6.out;rw [k2] at h2;have:=name_size (show nameB n=true from h2)
    omega
   go_enter Tryz.func185,Tryz.ntmps185;go_upto_region 1 with (fail)
   rw [<- am.out];go_wp2_with fail;go_at_call 114;refine (bj.out _ _ _ D.out.2.1 HT.out b4).mono ?_;rw [<- N];clear N;rintro e w3 O;have HF:Hid (PutP b X tx deep T w e w3):=put_from D.out O;rcases O.cases with ⟨A,rfl,B,U,C⟩ | ⟨A,rfl,C⟩
   · clear A B U C O
     go_wp2_with fail;exact bodyPost_end (results_none rfl _ _ _) rfl HF.out
   · clear A C O
     go_wp2_with fail;exact ⟨rfl,HF.out⟩
 have k2:(k==2)=false:=by simp [hk2]
 by_cases hk3:k=3
 · have k3 : (k == 3) = true := by simp [hk3]
   have M:(oneB o&&kid1 R (rEs R) d)=true:=by
    have:=ba.out;unfold kB at this;rw [if_neg (by omega),if_pos hk3] at this
    exact this
   simp only [Bool.and_eq_true] at M;have N:tx=signOf o++kid1T R (tEs R):=by rw [an.out];unfold tK;rw [if_neg hk1,if_neg hk2,if_pos hk3]
   obtain ⟨y,rfl⟩:∃ y,R=[y]:=by
    have:=M.2;match R,this with
    | [y],_=>exact ⟨y,rfl⟩
   have bu:rE y (d+1+b2i (y.kind==4))=true:=M.2;have V:tx=signOf o++kidT (y.kind==4) (tE y):=by
    rw [N];simp only [tEs,kid1T]
   obtain rfl:m=1:=HM.out;obtain ⟨r,I,G,H,l,F⟩:=y;rcases E1.out with e | ⟨g,q,e,_,e1⟩
   · cases e
   subst e;obtain ⟨⟨f0,f1,f2,f3,⟨aY,cY,f4,y4⟩,f5⟩,_⟩:=e1;have lg:=lt_of_at f0;simp only at lg;have f:Hid (g<b):=by rw [Hid,ad.out];exact lg
   have i:=Hd (And.intro f0 (And.intro f1 (And.intro f2 (And.intro f3 (And.intro f4 f5)))));have P:Hid (∀ W,Below b w0 W->Calls Tryz.prog 182 #[.agg #[.int .u8 r,.int .u8 I,.int .i64 G,.string H,.slice aY l.length cY,.int .i64 F]] W fun e w'=>e=.returned (.bool (r==4))/\Below W.heap.size W w'):=fun W Q=>p_wrapsOne (x:=.mk r I G H l F) ⟨aY,cY,rfl,exsAt_below y4 (by rw [<- ad.out];exact Q)⟩
   have E:Hid (∀ t W,Below b w0 W->Wt b t deep T W->t.length<=65536->Calls Tryz.prog 208 #[.pointer (some ⟨b,0,none⟩),.agg #[.int .u8 r,.int .u8 I,.int .i64 G,.string H,.slice aY l.length cY,.int .i64 F],.bool (r==4)] W (PutP b t (kidT (r==4) (tE (.mk r I G H l F))) deep T W)):=fun t W Q B ht =>
    p_kid (.mk r I G H l F) (HI.out _ (.head _)) (r==4) _ bu az.out.1 ⟨aY,cY,rfl,y4⟩ bf.out ad.out Q B ht
   change tx=signOf o++kidT (r==4) (tE (.mk r I G H l F)) at V;generalize kidT (r==4) (tE (.mk r I G H l F))=tY at E V;generalize (r==4)=wrY at P E;generalize l.length=mY at P E i;have ab:=Hd V;clear f0 f1 f2 f3 f4 f5 y4 lg N V bu M HI an HM hk3;go_enter Tryz.func185,Tryz.ntmps185;go_upto_region 1 with (fail)
   rw [<- am.out];go_wp2_with (first | (go_at_call 207;refine (bw.out _ D.out.2.2.1).mono ?_;rintro e w2 ⟨rfl,rfl⟩))
   go_at_call 114;refine (bj.out _ _ _ D.out.2.1 HT.out (sign_small o)).mono ?_;rintro e w3 O;rcases O.cases with ⟨A,rfl,B,U,C⟩ | ⟨A,rfl,C⟩
   rotate_left
   · go_wp2_with fail
     exact ⟨rfl,D.out.2.2.2.2.trans C,.inr ⟨by rw [ab.out];simp at A ⊢;omega,rfl⟩⟩
   have Z:=Hd (xst_put D.out HG.out B U C);have bd:=Hd A;clear A B U C D am c0;go_upto_region 8 with (fail)
   refine wp_region_held (S:=fun W=>∃ t,Xst w0 w b w.heap.size #[.int .u8 k,.int .u8 o,.int .i64 wd,.string n,.slice (some ⟨g,q,none⟩) 1 j,.int .i64 ps] t deep T W) (by kernel_rfl) ?_
   change wpAnyH _ _ _ _ _ _ _ _ w3.drew;have D0:Xst w0 w b w.heap.size #[.int .u8 k,.int .u8 o,.int .i64 wd,.string n,.slice (some ⟨g,q,none⟩) 1 j,.int .i64 ps] _ deep T w3.drew:=xst_below Z.out (below_drewN (Below.refl _ w3) 1);obtain ⟨ch,Q⟩:=Qx w3.drew;rw [<- Q] at D0 ⊢;clear Q;have c:=Hd D0;clear D0;refine dk 0 (.pointer (some ⟨b,0,none⟩)) rfl rfl (fun _ _=>rfl) ⟨_,c.out⟩ ?_
   change wpAnyH _ _ _ _ _ _ _ F74_ _;delta F74_;refine dk 1 (.pointer (some ⟨w.heap.size,4,none⟩)) rfl rfl (fun _ _=>by unfold execOp;go_simp) ⟨_,c.out⟩ ?_
   change wpAnyH _ _ _ _ _ _ _ F74_ _;delta F74_;refine dk 2 (.slice (some ⟨g,q,none⟩) 1 j) rfl rfl (fun W h=>by obtain ⟨_,h⟩:=h;have c4:W.cell? ⟨w.heap.size,4,none⟩=some (.slice (some ⟨g,q,none⟩) 1 j):=(cr h.1);unfold execOp;go_simp) ⟨_,c.out⟩ ?_
   change wpAnyH _ _ _ _ _ _ _ F74_ _;delta F74_;refine dk 3 (.pointer (some ⟨g,q,none⟩)) rfl rfl (fun _ _=>by unfold execOp;go_simp) ⟨_,c.out⟩ ?_
   change wpAnyH _ _ _ _ _ _ _ F74_ _;delta F74_;refine dk 4 (.agg #[.int .u8 r,.int .u8 I,.int .i64 G,.string H,.slice aY mY cY,.int .i64 F]) rfl rfl (fun W h=>by obtain ⟨_,h⟩:=h;have f0:=cb h.2.2.1 f.out i.out.1;have f1:=cb h.2.2.1 f.out i.out.2.1;have f2:=cb h.2.2.1 f.out i.out.2.2.1;have f3:=cb h.2.2.1 f.out i.out.2.2.2.1;have f4:=cb h.2.2.1 f.out i.out.2.2.2.2.1;have f5:=cb h.2.2.1 f.out i.out.2.2.2.2.2;unfold execOp;go_simp) ⟨_,c.out⟩ ?_
   change wpAnyH _ _ _ _ _ _ _ F74_ _;delta F74_;refine dk 5 (.pointer (some ⟨w.heap.size,4,none⟩)) rfl rfl (fun _ _=>by unfold execOp;go_simp) ⟨_,c.out⟩ ?_
   change wpAnyH _ _ _ _ _ _ _ F74_ _;delta F74_;refine dk 6 (.slice (some ⟨g,q,none⟩) 1 j) rfl rfl (fun W h=>by obtain ⟨_,h⟩:=h;have c4:W.cell? ⟨w.heap.size,4,none⟩=some (.slice (some ⟨g,q,none⟩) 1 j):=(cr h.1);unfold execOp;go_simp) ⟨_,c.out⟩ ?_
   change wpAnyH _ _ _ _ _ _ _ F74_ _;delta F74_;refine dk 7 (.pointer (some ⟨g,q,none⟩)) rfl rfl (fun _ _=>by unfold execOp;go_simp) ⟨_,c.out⟩ ?_
   change wpAnyH _ _ _ _ _ _ _ F74_ _;delta F74_;refine dk 8 (.agg #[.int .u8 r,.int .u8 I,.int .i64 G,.string H,.slice aY mY cY,.int .i64 F]) rfl rfl (fun W h=>by obtain ⟨_,h⟩:=h;have f0:=cb h.2.2.1 f.out i.out.1;have f1:=cb h.2.2.1 f.out i.out.2.1;have f2:=cb h.2.2.1 f.out i.out.2.2.1;have f3:=cb h.2.2.1 f.out i.out.2.2.2.1;have f4:=cb h.2.2.1 f.out i.out.2.2.2.2.1;have f5:=cb h.2.2.1 f.out i.out.2.2.2.2.2;unfold execOp;go_simp) ⟨_,c.out⟩ ?_
   change wpAnyH _ _ _ _ _ _ _ F74_ _;delta F74_;refine do1 9 rfl rfl ?_;refine wp_call (vs:=#[.agg #[.int .u8 r,.int .u8 I,.int .i64 G,.string H,.slice aY mY cY,.int .i64 F]]) rfl rfl (enters_of Tryz.func182 (by kernel_rfl) rfl) (by simp [Act.eval]) (P.out _ c.out.2.2.1) ?_
   rintro e w6 ⟨rfl,Y⟩;have p:=Hd (xst_below c.out Y);clear Y c;refine ⟨⟨_,p.out⟩,?_⟩;change wpAnyH _ _ _ _ _ _ _ F74_ _;delta F74_;refine do1 10 rfl rfl ?_;refine wp_call (vs:=#[.pointer (some ⟨b,0,none⟩),.agg #[.int .u8 r,.int .u8 I,.int .i64 G,.string H,.slice aY mY cY,.int .i64 F],.bool wrY]) rfl rfl (enters_of Tryz.func208 (by kernel_rfl) rfl) (by simp [Act.eval]) (E.out _ _ p.out.2.2.1 p.out.2.1 bd.out) ?_
   rintro e w8 O;rcases O.cases with ⟨A,rfl,B,U,C⟩ | ⟨A,rfl,C⟩
   rotate_left
   · exact ⟨rfl,p.out.2.2.2.2.trans C,.inr ⟨by rw [ab.out];simp at A ⊢;omega,rfl⟩⟩
   have J:=Hd (xst_put p.out HG.out B U C);have ao:=Hd A;clear A B U C O p;refine ⟨⟨_,J.out⟩,?_⟩;refine wpAnyH_done (by kernel_rfl) ?_ _
   have he:X++(signOf o++tY)=X++signOf o++tY:=by simp
   have HF:Hid (PutP b X tx deep T w (.returned (.tuple #[])) w8):=by
    rw [Hid,ab.out];exact ⟨J.out.2.2.2.2,.inl ⟨by rw [he];exact ao.out,rfl,by rw [he];exact J.out.2.1,J.out.2.2.2.1⟩⟩
   clear he;go_wp2_with fail;exact bodyPost_end (results_none rfl _ _ _) rfl HF.out
 have k3:(k==3)=false:=by simp [hk3]
 by_cases hk4:k=4
 · have k4 : (k == 4) = true := by simp [hk4]
   have M:(twoB o&&kid2 o R (rEs R) d)=true:=by
    have:=ba.out;unfold kB at this;rw [if_neg (by omega),if_neg hk3,if_pos hk4] at this
    exact this
   simp only [Bool.and_eq_true] at M;have N:tx=kid2T o R (tEs R):=by rw [an.out];unfold tK;rw [if_neg hk1,if_neg hk2,if_neg hk3,if_pos hk4]
   obtain ⟨y,z,rfl⟩:∃ y z,R=[y,z]:=by
    have:=M.2;match R,this with
    | [y,z],_=>exact ⟨y,z,rfl⟩
   have a4:(rE y (d+b2i (wrL o y))&&rE z (d+b2i (wrR o z)))=true:=M.2;simp only [Bool.and_eq_true] at a4;have V:tx=kidT (wrL o y) (tE y)++([32]++signOf o++[32])++kidT (wrR o z) (tE z):=by
    rw [N];simp only [tEs,kid2T]
   obtain rfl:m=2:=HM.out;obtain ⟨r,I,G,H,l,F⟩:=y;obtain ⟨kZ,oZ,wZ,nZ,L,pZ⟩:=z;rcases E1.out with e | ⟨g,q,e,_,e1⟩
   · cases e
   subst e;obtain ⟨⟨f0,f1,f2,f3,⟨aY,cY,f4,y4⟩,f5⟩,⟨g0,g1,g2,g3,⟨aZ,cZ,g4,z4⟩,g5⟩,_⟩:=e1;have lg:=lt_of_at f0;simp only at lg;have f:Hid (g<b):=by rw [Hid,ad.out];exact lg
   have i:=Hd (And.intro f0 (And.intro f1 (And.intro f2 (And.intro f3 (And.intro f4 f5)))));have K:=Hd (And.intro g0 (And.intro g1 (And.intro g2 (And.intro g3 (And.intro g4 g5)))));have P:Hid (∀ W,Below b w0 W->Calls Tryz.prog 183 #[.int .u8 o,.agg #[.int .u8 r,.int .u8 I,.int .i64 G,.string H,.slice aY l.length cY,.int .i64 F]] W fun e w'=>e=.returned (.bool (wrL o (.mk r I G H l F)))/\Below W.heap.size W w'):=fun W Q=>p_wrapsL (x:=.mk r I G H l F) o HO.out az.out.1.2.1 ⟨aY,cY,rfl,exsAt_below y4 (by rw [<- ad.out];exact Q)⟩ (bz.out W Q).pt.1.2
   have a2:Hid (∀ W,Below b w0 W->Calls Tryz.prog 184 #[.int .u8 o,.agg #[.int .u8 kZ,.int .u8 oZ,.int .i64 wZ,.string nZ,.slice aZ L.length cZ,.int .i64 pZ]] W fun e w'=>e=.returned (.bool (wrR o (.mk kZ oZ wZ nZ L pZ)))/\Below W.heap.size W w'):=fun W Q=>p_wrapsR (x:=.mk kZ oZ wZ nZ L pZ) o HO.out az.out.2.1.2.1 ⟨aZ,cZ,rfl,exsAt_below z4 (by rw [<- ad.out];exact Q)⟩ (bz.out W Q).pt.1.2
   have E:Hid (∀ t W,Below b w0 W->Wt b t deep T W->t.length<=65536->Calls Tryz.prog 208 #[.pointer (some ⟨b,0,none⟩),.agg #[.int .u8 r,.int .u8 I,.int .i64 G,.string H,.slice aY l.length cY,.int .i64 F],.bool (wrL o (.mk r I G H l F))] W (PutP b t (kidT (wrL o (.mk r I G H l F)) (tE (.mk r I G H l F))) deep T W)):=fun t W Q B ht =>
    p_kid (.mk r I G H l F) (HI.out _ (.head _)) (wrL o (.mk r I G H l F)) _ a4.1 az.out.1 ⟨aY,cY,rfl,y4⟩ bf.out ad.out Q B ht
   have ak:Hid (∀ t W,Below b w0 W->Wt b t deep T W->t.length<=65536->Calls Tryz.prog 208 #[.pointer (some ⟨b,0,none⟩),.agg #[.int .u8 kZ,.int .u8 oZ,.int .i64 wZ,.string nZ,.slice aZ L.length cZ,.int .i64 pZ],.bool (wrR o (.mk kZ oZ wZ nZ L pZ))] W (PutP b t (kidT (wrR o (.mk kZ oZ wZ nZ L pZ)) (tE (.mk kZ oZ wZ nZ L pZ))) deep T W)):=fun t W Q B ht =>
    p_kid (.mk kZ oZ wZ nZ L pZ) (HI.out _ (.tail _ (.head _))) (wrR o (.mk kZ oZ wZ nZ L pZ)) _ a4.2 az.out.2.1 ⟨aZ,cZ,rfl,z4⟩ bf.out ad.out Q B ht
   have ci:Hid (∀ t W s,Wt b t deep T W->t.length<=65536->s.size<=140737488289792->Calls Tryz.prog 114 #[.pointer (some ⟨b,0,none⟩),.slice (some ⟨W.heap.size,0,none⟩) 3 3] (W.alloc (.cells #[.string ⟨#[32]⟩,.string s,.string ⟨#[32]⟩] 9)) (PutP b t ([32]++s.data.toList++[32]) deep T W)):=fun t W s B ht hz=>p_put3 B ht ⟨#[32]⟩ s ⟨#[32]⟩ ⟨by decide,hz,by decide⟩
   generalize kidT (wrL o (.mk r I G H l F)) (tE (.mk r I G H l F))=tY at E V;generalize kidT (wrR o (.mk kZ oZ wZ nZ L pZ)) (tE (.mk kZ oZ wZ nZ L pZ))=tZ at ak V;generalize wrL o (.mk r I G H l F)=wrY at P E;generalize wrR o (.mk kZ oZ wZ nZ L pZ)=wrZ at a2 ak;generalize l.length=mY at P E i;generalize L.length=mZ at a2 ak K;have ab:=Hd V;have b8:=HT;clear f0 f1 f2 f3 f4 f5 y4 g0 g1 g2 g3 g4 g5 z4 lg N V a4 M HI an HM hk4;go_enter Tryz.func185,Tryz.ntmps185;go_upto_region 1 with (fail)
   rw [<- am.out];go_upto_region 10 with (fail)
   clear am c0;refine wp_region_held (S:=fun W=>∃ t,Xst w0 w b w.heap.size #[.int .u8 k,.int .u8 o,.int .i64 wd,.string n,.slice (some ⟨g,q,none⟩) 2 j,.int .i64 ps] t deep T W) (by kernel_rfl) ?_
   change wpAnyH _ _ _ _ _ _ _ _ W0.drew;have D0:Xst w0 w b w.heap.size #[.int .u8 k,.int .u8 o,.int .i64 wd,.string n,.slice (some ⟨g,q,none⟩) 2 j,.int .i64 ps] _ deep T W0.drew:=xst_below D.out (below_drewN (Below.refl _ W0) 1);obtain ⟨c6,Q⟩:=Qx W0.drew;rw [<- Q] at D0 ⊢;clear Q;have c:=Hd D0;clear D0;refine dk 0 (.pointer (some ⟨b,0,none⟩)) rfl rfl (fun _ _=>rfl) ⟨_,c.out⟩ ?_
   change wpAnyH _ _ _ _ _ _ _ F74_ _;delta F74_;refine dk 1 (.pointer (some ⟨w.heap.size,4,none⟩)) rfl rfl (fun _ _=>by unfold execOp;go_simp) ⟨_,c.out⟩ ?_
   change wpAnyH _ _ _ _ _ _ _ F74_ _;delta F74_;refine dk 2 (.slice (some ⟨g,q,none⟩) 2 j) rfl rfl (fun W h=>by obtain ⟨_,h⟩:=h;have c4:W.cell? ⟨w.heap.size,4,none⟩=some (.slice (some ⟨g,q,none⟩) 2 j):=(cr h.1);unfold execOp;go_simp) ⟨_,c.out⟩ ?_
   change wpAnyH _ _ _ _ _ _ _ F74_ _;delta F74_;refine dk 3 (.pointer (some ⟨g,q,none⟩)) rfl rfl (fun _ _=>by unfold execOp;go_simp) ⟨_,c.out⟩ ?_
   change wpAnyH _ _ _ _ _ _ _ F74_ _;delta F74_;refine dk 4 (.agg #[.int .u8 r,.int .u8 I,.int .i64 G,.string H,.slice aY mY cY,.int .i64 F]) rfl rfl (fun W h=>by obtain ⟨_,h⟩:=h;have f0:=cb h.2.2.1 f.out i.out.1;have f1:=cb h.2.2.1 f.out i.out.2.1;have f2:=cb h.2.2.1 f.out i.out.2.2.1;have f3:=cb h.2.2.1 f.out i.out.2.2.2.1;have f4:=cb h.2.2.1 f.out i.out.2.2.2.2.1;have f5:=cb h.2.2.1 f.out i.out.2.2.2.2.2;unfold execOp;go_simp) ⟨_,c.out⟩ ?_
   change wpAnyH _ _ _ _ _ _ _ F74_ _;delta F74_;refine dk 5 (.pointer (some ⟨w.heap.size,1,none⟩)) rfl rfl (fun _ _=>by unfold execOp;go_simp) ⟨_,c.out⟩ ?_
   change wpAnyH _ _ _ _ _ _ _ F74_ _;delta F74_;refine dk 6 (.int .u8 o) rfl rfl (fun W h=>by obtain ⟨_,h⟩:=h;have c1:W.cell? ⟨w.heap.size,1,none⟩=some (.int .u8 o):=(cr h.1);unfold execOp;go_simp) ⟨_,c.out⟩ ?_
   change wpAnyH _ _ _ _ _ _ _ F74_ _;delta F74_;refine dk 7 (.pointer (some ⟨w.heap.size,4,none⟩)) rfl rfl (fun _ _=>by unfold execOp;go_simp) ⟨_,c.out⟩ ?_
   change wpAnyH _ _ _ _ _ _ _ F74_ _;delta F74_;refine dk 8 (.slice (some ⟨g,q,none⟩) 2 j) rfl rfl (fun W h=>by obtain ⟨_,h⟩:=h;have c4:W.cell? ⟨w.heap.size,4,none⟩=some (.slice (some ⟨g,q,none⟩) 2 j):=(cr h.1);unfold execOp;go_simp) ⟨_,c.out⟩ ?_
   change wpAnyH _ _ _ _ _ _ _ F74_ _;delta F74_;refine dk 9 (.pointer (some ⟨g,q,none⟩)) rfl rfl (fun _ _=>by unfold execOp;go_simp) ⟨_,c.out⟩ ?_
   change wpAnyH _ _ _ _ _ _ _ F74_ _;delta F74_;refine dk 10 (.agg #[.int .u8 r,.int .u8 I,.int .i64 G,.string H,.slice aY mY cY,.int .i64 F]) rfl rfl (fun W h=>by obtain ⟨_,h⟩:=h;have f0:=cb h.2.2.1 f.out i.out.1;have f1:=cb h.2.2.1 f.out i.out.2.1;have f2:=cb h.2.2.1 f.out i.out.2.2.1;have f3:=cb h.2.2.1 f.out i.out.2.2.2.1;have f4:=cb h.2.2.1 f.out i.out.2.2.2.2.1;have f5:=cb h.2.2.1 f.out i.out.2.2.2.2.2;unfold execOp;go_simp) ⟨_,c.out⟩ ?_
   change wpAnyH _ _ _ _ _ _ _ F74_ _;delta F74_;refine do1 11 rfl rfl ?_;refine wp_call (vs:=#[.int .u8 o,.agg #[.int .u8 r,.int .u8 I,.int .i64 G,.string H,.slice aY mY cY,.int .i64 F]]) rfl rfl (enters_of Tryz.func183 (by kernel_rfl) rfl) (by simp [Act.eval]) (P.out _ c.out.2.2.1) ?_
   rintro e w6 ⟨rfl,Y⟩;have p:=Hd (xst_below c.out Y);clear Y c;refine ⟨⟨_,p.out⟩,?_⟩;change wpAnyH _ _ _ _ _ _ _ F74_ _;delta F74_;refine do1 12 rfl rfl ?_;refine wp_call (vs:=#[.pointer (some ⟨b,0,none⟩),.agg #[.int .u8 r,.int .u8 I,.int .i64 G,.string H,.slice aY mY cY,.int .i64 F],.bool wrY]) rfl rfl (enters_of Tryz.func208 (by kernel_rfl) rfl) (by simp [Act.eval]) (E.out _ _ p.out.2.2.1 p.out.2.1 b8.out) ?_
   rintro e w8 O;rcases O.cases with ⟨A,rfl,B,U,C⟩ | ⟨A,rfl,C⟩
   rotate_left
   · exact ⟨rfl,p.out.2.2.2.2.trans C,.inr ⟨by rw [ab.out];simp at A ⊢;omega,rfl⟩⟩
   have J:=Hd (xst_put p.out HG.out B U C);have ao:=Hd A;clear A B U C O p;refine ⟨⟨_,J.out⟩,?_⟩;refine wpAnyH_done (by kernel_rfl) ?_ _
   have Z:=J;have bd:=ao;clear J ao;have b9:w8.cell? ⟨w.heap.size,1,none⟩=some (.int .u8 o):=cr Z.out.1;go_wp2_with (first | (go_at_call 207;refine (bw.out _ Z.out.2.2.1).mono ?_;rintro e w2 ⟨rfl,rfl⟩))
   go_at_call 114;refine (ci.out _ _ _ Z.out.2.1 bd.out (sign_small o)).mono ?_;rintro e w3 O;rcases O.cases with ⟨A,rfl,B,U,C⟩ | ⟨A,rfl,C⟩
   rotate_left
   · go_wp2_with fail
     exact ⟨rfl,Z.out.2.2.2.2.trans C,.inr ⟨by rw [ab.out];simp at A ⊢;omega,rfl⟩⟩
   have b7:=Hd (xst_put Z.out HG.out B U C);have cg:=Hd A;clear A B U C O b9 Z;go_upto_region 12 with (fail)
   refine wp_region_held (S:=fun W=>∃ t,Xst w0 w b w.heap.size #[.int .u8 k,.int .u8 o,.int .i64 wd,.string n,.slice (some ⟨g,q,none⟩) 2 j,.int .i64 ps] t deep T W) (by kernel_rfl) ?_
   change wpAnyH _ _ _ _ _ _ _ _ w3.drew;have D0:Xst w0 w b w.heap.size #[.int .u8 k,.int .u8 o,.int .i64 wd,.string n,.slice (some ⟨g,q,none⟩) 2 j,.int .i64 ps] _ deep T w3.drew:=xst_below b7.out (below_drewN (Below.refl _ w3) 1);obtain ⟨ch,Q⟩:=Qx w3.drew;rw [<- Q] at D0 ⊢;clear Q;have c:=Hd D0;clear D0;refine dk 0 (.pointer (some ⟨b,0,none⟩)) rfl rfl (fun _ _=>rfl) ⟨_,c.out⟩ ?_
   change wpAnyH _ _ _ _ _ _ _ F74_ _;delta F74_;refine dk 1 (.pointer (some ⟨w.heap.size,4,none⟩)) rfl rfl (fun _ _=>by unfold execOp;go_simp) ⟨_,c.out⟩ ?_
   change wpAnyH _ _ _ _ _ _ _ F74_ _;delta F74_;refine dk 2 (.slice (some ⟨g,q,none⟩) 2 j) rfl rfl (fun W h=>by obtain ⟨_,h⟩:=h;have c4:W.cell? ⟨w.heap.size,4,none⟩=some (.slice (some ⟨g,q,none⟩) 2 j):=(cr h.1);unfold execOp;go_simp) ⟨_,c.out⟩ ?_
   change wpAnyH _ _ _ _ _ _ _ F74_ _;delta F74_;refine dk 3 (.pointer (some ⟨g,q+6,none⟩)) rfl rfl (fun _ _=>by unfold execOp;go_simp) ⟨_,c.out⟩ ?_
   change wpAnyH _ _ _ _ _ _ _ F74_ _;delta F74_;refine dk 4 (.agg #[.int .u8 kZ,.int .u8 oZ,.int .i64 wZ,.string nZ,.slice aZ mZ cZ,.int .i64 pZ]) rfl rfl (fun W h=>by obtain ⟨_,h⟩:=h;have f0:=cb h.2.2.1 f.out K.out.1;have f1:=cb h.2.2.1 f.out K.out.2.1;have f2:=cb h.2.2.1 f.out K.out.2.2.1;have f3:=cb h.2.2.1 f.out K.out.2.2.2.1;have f4:=cb h.2.2.1 f.out K.out.2.2.2.2.1;have f5:=cb h.2.2.1 f.out K.out.2.2.2.2.2;unfold execOp;go_simp) ⟨_,c.out⟩ ?_
   change wpAnyH _ _ _ _ _ _ _ F74_ _;delta F74_;refine dk 5 (.pointer (some ⟨w.heap.size,1,none⟩)) rfl rfl (fun _ _=>by unfold execOp;go_simp) ⟨_,c.out⟩ ?_
   change wpAnyH _ _ _ _ _ _ _ F74_ _;delta F74_;refine dk 6 (.int .u8 o) rfl rfl (fun W h=>by obtain ⟨_,h⟩:=h;have c1:W.cell? ⟨w.heap.size,1,none⟩=some (.int .u8 o):=(cr h.1);unfold execOp;go_simp) ⟨_,c.out⟩ ?_
   change wpAnyH _ _ _ _ _ _ _ F74_ _;delta F74_;refine dk 7 (.pointer (some ⟨w.heap.size,4,none⟩)) rfl rfl (fun _ _=>by unfold execOp;go_simp) ⟨_,c.out⟩ ?_
   change wpAnyH _ _ _ _ _ _ _ F74_ _;delta F74_;refine dk 8 (.slice (some ⟨g,q,none⟩) 2 j) rfl rfl (fun W h=>by obtain ⟨_,h⟩:=h;have c4:W.cell? ⟨w.heap.size,4,none⟩=some (.slice (some ⟨g,q,none⟩) 2 j):=(cr h.1);unfold execOp;go_simp) ⟨_,c.out⟩ ?_
   change wpAnyH _ _ _ _ _ _ _ F74_ _;delta F74_;refine dk 9 (.pointer (some ⟨g,q+6,none⟩)) rfl rfl (fun _ _=>by unfold execOp;go_simp) ⟨_,c.out⟩ ?_
   change wpAnyH _ _ _ _ _ _ _ F74_ _;delta F74_;refine dk 10 (.agg #[.int .u8 kZ,.int .u8 oZ,.int .i64 wZ,.string nZ,.slice aZ mZ cZ,.int .i64 pZ]) rfl rfl (fun W h=>by obtain ⟨_,h⟩:=h;have f0:=cb h.2.2.1 f.out K.out.1;have f1:=cb h.2.2.1 f.out K.out.2.1;have f2:=cb h.2.2.1 f.out K.out.2.2.1;have f3:=cb h.2.2.1 f.out K.out.2.2.2.1;have f4:=cb h.2.2.1 f.out K.out.2.2.2.2.1;have f5:=cb h.2.2.1 f.out K.out.2.2.2.2.2;unfold execOp;go_simp) ⟨_,c.out⟩ ?_
   change wpAnyH _ _ _ _ _ _ _ F74_ _;delta F74_;refine do1 11 rfl rfl ?_;refine wp_call (vs:=#[.int .u8 o,.agg #[.int .u8 kZ,.int .u8 oZ,.int .i64 wZ,.string nZ,.slice aZ mZ cZ,.int .i64 pZ]]) rfl rfl (enters_of Tryz.func184 (by kernel_rfl) rfl) (by simp [Act.eval]) (a2.out _ c.out.2.2.1) ?_
   rintro e w6 ⟨rfl,Y⟩;have p:=Hd (xst_below c.out Y);clear Y c;refine ⟨⟨_,p.out⟩,?_⟩;change wpAnyH _ _ _ _ _ _ _ F74_ _;delta F74_;refine do1 12 rfl rfl ?_;refine wp_call (vs:=#[.pointer (some ⟨b,0,none⟩),.agg #[.int .u8 kZ,.int .u8 oZ,.int .i64 wZ,.string nZ,.slice aZ mZ cZ,.int .i64 pZ],.bool wrZ]) rfl rfl (enters_of Tryz.func208 (by kernel_rfl) rfl) (by simp [Act.eval]) (ak.out _ _ p.out.2.2.1 p.out.2.1 cg.out) ?_
   rintro e w8 O;rcases O.cases with ⟨A,rfl,B,U,C⟩ | ⟨A,rfl,C⟩
   rotate_left
   · exact ⟨rfl,p.out.2.2.2.2.trans C,.inr ⟨by rw [ab.out];simp at A ⊢;omega,rfl⟩⟩
   have J:=Hd (xst_put p.out HG.out B U C);have ao:=Hd A;clear A B U C O p;refine ⟨⟨_,J.out⟩,?_⟩;refine wpAnyH_done (by kernel_rfl) ?_ _
   have he:X++(tY++([32]++signOf o++[32])++tZ)=X++tY++([32]++signOf o++[32])++tZ:=by simp
   have HF:Hid (PutP b X tx deep T w (.returned (.tuple #[])) w8):=by
    rw [Hid,ab.out];exact ⟨J.out.2.2.2.2,.inl ⟨by rw [he];exact ao.out,rfl,by rw [he];exact J.out.2.1,J.out.2.2.2.1⟩⟩
   clear he;go_wp2_with fail;exact bodyPost_end (results_none rfl _ _ _) rfl HF.out
 · exfalso
   have:=ba.out;unfold kB at this;rw [if_neg (by omega),if_neg hk3,if_neg hk4] at this
   cases this
end Go.Proofs.YtbgfkdiihnidaaaGreatDoor

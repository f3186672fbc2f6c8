/- The proof, part 10: texts that belong together, in one. -/
import Derived.Test.YtieeaehabjjaoaaGreatDoorHAI
set_option maxRecDepth 100000
set_option maxHeartbeats 20000000
namespace Go.Proofs.YtieeaehabjjaoaaGreatDoor
open Go.RowKit
set_option linter.unusedVariables false
set_option maxRecDepth 100000
theorem wexpr_any:∀ x:Ex,WrE x:=by
 intro x
 induction x using Ex.ind with
 | h k o wd nm ks ps ih=>exact p_wexpr _ ih
def zFs:List Value:=[.nilFunc,.nilFunc,.nilFunc,.nilFunc,.nilFunc,.nilFunc,.nilFunc,.nilFunc]
theorem wt_new (W:World) (fs:List Value) (hf:fs.length=8):Wt W.heap.size [] 0 fs (W.alloc (.cells (.pointer none :: .slice none 0 0 :: .int .i64 0::fs).toArray 91)) :=
 ⟨.pointer none,.slice none 0 0,Own.new W _ _,hf,.inl rfl,fun _=>rfl,⟨rfl,.inl ⟨rfl,rfl⟩⟩⟩
def TxP (w:World) (t:List UInt8) (e:Ending) (w':World):Prop:=Below w.heap.size w w'∧(t.length≤65536∧e=.returned (.string ⟨t.toArray⟩)∨65536<t.length∧e=.panicked (errP 4))
theorem p_wexpression (x:Ex) (d:Int) (hr:rE x d=true) (hrg:rgE x) {v:Value} {w:World} (hv:exA w x v) (TT:WTb w):Calls Tryz.prog 58 #[v] w (TxP w (tE x)):=by
 obtain ⟨a,cap,rfl,h1⟩:=hv
 have HE:Hid (∀ w0 W b,exA w0 x (.agg #[.int .u8 x.kind,.int .u8 x.op,.int .i64 x.wd,.string x.name,.slice a x.kids.length cap,.int .i64 x.pos])→WTb w0→b=w0.heap.size→Below b w0 W→Wt b [] 0 zFs W→Calls Tryz.prog 104 #[.pointer (some ⟨b,0,none⟩),.agg #[.int .u8 x.kind,.int .u8 x.op,.int .i64 x.wd,.string x.name,.slice a x.kids.length cap,.int .i64 x.pos]] W (PutP b [] (tE x) 0 zFs W)) :=
  fun w0 W b h T h0 h1 h2=>wexpr_any x d hr hrg _ w0 W b [] 0 zFs h T h0 h1 h2 (by simp)
 have hexA:∀ W,Below w.heap.size w W→exA W x (.agg #[.int .u8 x.kind,.int .u8 x.op,.int .i64 x.wd,.string x.name,.slice a x.kids.length cap,.int .i64 x.pos]):=fun W hW=>⟨a,cap,rfl,exsAt_below h1 hW⟩
 have HXA:=Lib.hid hexA
 have HTT:=Lib.hid TT
 clear h1 hexA TT hr hrg
 generalize x.kind=k,x.op=o,x.wd=wd,x.name=n,x.kids.length=m,x.pos=ps at *
 generalize tE x=tx at HE ⊢
 have al:Below w.heap.size w (w.alloc (.cells #[.int .u8 k,.int .u8 o,.int .i64 wd,.string n,.slice a m cap,.int .i64 ps] 59)):=(Below.refl _ w).alloc (Nat.le_refl _) _
 obtain ⟨w0,hw0⟩:∃ W,W=w.alloc (.cells #[.int .u8 k,.int .u8 o,.int .i64 wd,.string n,.slice a m cap,.int .i64 ps] 59):=⟨_,rfl⟩
 have hs0:w0.heap.size=w.heap.size+1:=by rw [hw0,World.size_alloc]
 have ho0:Own w0 w.heap.size 59 #[.int .u8 k,.int .u8 o,.int .i64 wd,.string n,.slice a m cap,.int .i64 ps]:=by rw [hw0];exact Own.new w _ _
 rw [← hw0] at al
 have hb1:Below w0.heap.size w0 (w0.alloc (.cells #[.pointer none,.slice none 0 0,.int .i64 0,.nilFunc,.nilFunc,.nilFunc,.nilFunc,.nilFunc,.nilFunc,.nilFunc,.nilFunc] 91)):=(Below.refl _ w0).alloc (Nat.le_refl _) _
 have hwt:=wt_new w0 zFs rfl
 obtain ⟨W1,hW1⟩:∃ W,W=w0.alloc (.cells #[.pointer none,.slice none 0 0,.int .i64 0,.nilFunc,.nilFunc,.nilFunc,.nilFunc,.nilFunc,.nilFunc,.nilFunc,.nilFunc] 91):=⟨_,rfl⟩
 have hwt':Wt w0.heap.size [] 0 zFs W1:=by rw [hW1];exact hwt
 have ho1:=ho0.alloc (.cells #[.pointer none,.slice none 0 0,.int .i64 0,.nilFunc,.nilFunc,.nilFunc,.nilFunc,.nilFunc,.nilFunc,.nilFunc,.nilFunc] 91)
 rw [← hW1] at hb1 ho1
 have HC:=Lib.hid (HE.out w0 W1 _ (HXA.out _ al) (HTT.out.below al) rfl hb1 hwt')
 have HB:=Lib.hid (al.trans (hb1.mono al.size))
 have HS0:=Lib.hid hs0
 have HW0:=Lib.hid hw0
 have HW1:=Lib.hid hW1
 clear hw0 hW1 hwt hwt' hb1 al ho0 hs0 HE HXA HTT
 have O1:=ho1
 go_enter Tryz.func58,Tryz.ntmps58
 go_upto_region 2 with (fail)
 rw [← HW0.out,← HW1.out]
 go_wp2_with (refine ld rowEx rfl rfl rfl O1 rfl ?_)
 go_at_call 104
 have HC2:=HC.out
 rw [HS0.out] at HC2
 refine HC2.mono ?_
 clear HC2
 rintro e w2 hh
 rcases hh.cases with ⟨hx,rfl,hw,hk,hb⟩ | ⟨hx,rfl,hb⟩
 rotate_left
 · go_wp2_with fail
   exact ⟨rfl,HB.out.trans (hb.mono (by omega)),.inr ⟨by simpa using hx,rfl⟩⟩
 rw [List.nil_append] at hw hx
 have HST:=Lib.hid (wt_string hw)
 have HB2:=Lib.hid (HB.out.trans (hb.mono (by omega:w.heap.size≤w.heap.size+1)))
 have HX:=Lib.hid hx
 clear hx hw hk hb hh
 go_wp2_with (first | (go_at_call 47;refine (HST.out).mono ?_;rintro e w3 ⟨rfl,hb3⟩))
 go_ret
 exact ⟨HB2.out.trans (hb3.mono (by omega)),.inl ⟨HX.out,rfl⟩⟩
open Go.RowKit
set_option linter.unusedVariables false
set_option maxRecDepth 100000
theorem sa_list {b:Nat} {W:World} (hb:b<W.heap.size) (l:List ByteArray):SA b (W.alloc (.cells (l.map Value.string).toArray 9)) (some ⟨W.heap.size,0,none⟩) l :=
 .inr ⟨W.heap.size,_,rfl,by omega,Own.new W _ _,fun j x hj=>by simp [hj]⟩
theorem p_lineL {b:Nat} {txt:List UInt8} {deep:Nat} {fs:List Value} {W:World} (hw:Wt b txt deep fs W) (hd:deep≤1000) (ht:txt.length≤65536) (l:List ByteArray) (hl:l.length≤1000) (hs:∀ s∈l,s.size≤140737488289792) :
 Calls Tryz.prog 45 #[.pointer (some ⟨b,0,none⟩),.slice (some ⟨W.heap.size,0,none⟩) l.length l.length] (W.alloc (.cells (l.map Value.string).toArray 9)) (PutP b txt (marg deep++cat l++[10]) deep fs W):=by
 have h:=p_line (c:=l.length) (hw.below ((Below.refl _ W).alloc (Nat.le_refl _) (.cells (l.map Value.string).toArray 9))) hd ht (by omega) hs (sa_list hw.lt l)
 refine h.mono fun e w' ⟨h1,h2⟩=>⟨((Below.refl b W).alloc (Nat.le_of_lt hw.lt) _).trans h1,?_⟩
 rcases h2 with ⟨h3,h4,h5,h6⟩ | h2
 · exact .inl ⟨h3,h4,h5,(keep_alloc _).trans h6⟩
 · exact .inr h2
def ln (d:Nat) (l:List (List UInt8)):List UInt8:=marg d++l.flatten++[10]
def e0T:List Ex→List UInt8 | x::_=>tE x | []=>[]
mutual
def tS:St→Nat→List UInt8
 | .mk k n o e b l _ => fun d =>
   if k=1 then ln d [n.data.toList,[32,61,32],e0T e,[59]]
   else if k=2 then ln d [n.data.toList,[32,61,32,115,119,97,112,40],o.data.toList,[44,32],e0T e,[41,59]]
   else if k=3 then ln d [[105,102,32,40],e0T e,[41,32,123]]++tSs b (d+1)++(if 0<l.length then ln d [[125,32,101,108,115,101,32,123]]++tSs l (d+1) else [])++ln d [[125]]
   else if k=4 then ln d [[119,104,105,108,101,32,40],e0T e,[41,32,123]]++tSs b (d+1)++ln d [[125]]
   else if k=5 then ln d [[108,111,99,107,32],n.data.toList,[32,123]]++tSs b (d+1)++ln d [[125]]
   else if k=6 then ln d [[112,114,105,110,116,32],e0T e,[59]]
   else ln d [[115,107,105,112,59]]
def tSs:List St→Nat→List UInt8
 | []=>fun _=>[]
 | x::r=>fun d=>tS x d++tSs r d
end
def mFs (b:Nat):List Value:=[.nilFunc,.func (.func 79) #[.pointer (some ⟨b,0,none⟩)] #[],.func (.func 80) #[.pointer (some ⟨b,0,none⟩)] #[],.func (.func 81) #[.pointer (some ⟨b,0,none⟩)] #[],.func (.func 82) #[.pointer (some ⟨b,0,none⟩)] #[],.func (.func 83) #[.pointer (some ⟨b,0,none⟩)] #[],.func (.func 84) #[.pointer (some ⟨b,0,none⟩)] #[],.func (.func 85) #[.pointer (some ⟨b,0,none⟩)] #[]]
theorem ln_cat (d:Nat) (l:List ByteArray):marg d++cat l++[10]=ln d (l.map fun s=>s.data.toList):=by
 unfold ln cat
 rw [List.flatMap_def]
theorem not_u8S {cs:Array Value} : ¬ IsTy 5 (.cells cs 66):=by
 rintro ⟨c,f,h⟩
 cases h
def Sst (w0 w:World) (b gx:Nat) (row:Array Value) (t:List UInt8) (deep:Int) (fs:List Value) (W:World):Prop :=
 Own W gx 66 row∧Wt b t deep fs W∧Below b w0 W∧Keep (selW b) w W∧Below b w W
section
variable {w0 w W W':World} {b gx:Nat} {row:Array Value} {t:List UInt8} {deep:Int} {fs:List Value}
theorem sst_below (h:Sst w0 w b gx row t deep fs W) (hb:Below W.heap.size W W'):Sst w0 w b gx row t deep fs W':=by
 obtain ⟨h1,h2,h3,h4,h5⟩:=h
 have hb':Below b W W':=hb.mono (Nat.le_of_lt h2.lt)
 exact ⟨h1.below hb,h2.below hb,h3.trans hb',h4.trans (keep_below hb),h5.trans hb'⟩
theorem sst_put (h:Sst w0 w b gx row t deep fs W) (hg:gx≠b) {t':List UInt8} {deep':Int} (hw:Wt b t' deep' fs W') (hk:Keep (selW b) W W') (hb:Below b W W'):Sst w0 w b gx row t' deep' fs W':=by
 obtain ⟨h1,h2,h3,h4,h5⟩:=h
 exact ⟨hk.block _ _ h1 ⟨hg,not_u8S⟩,hw,h3.trans hb,h4.trans hk,h5.trans hb⟩
end
theorem ln_mem {d:Nat} {x:List UInt8} : ∀ {l:List (List UInt8)},x∈l→x.length≤(ln d l).length:=by
 intro l h
 have:x.length≤l.flatten.length:=by
  induction l with
  | nil=>cases h
  | cons y r ih =>
    rw [List.flatten_cons,List.length_append]
    rcases List.mem_cons.1 h with rfl | h
    · omega
    · have:=ih h;omega
 unfold ln
 simp only [List.length_append]
 omega
theorem p_line1 {b:Nat} {txt:List UInt8} {deep:Nat} {fs:List Value} {W:World} (hw:Wt b txt deep fs W) (hd:deep≤1000) (ht:txt.length≤65536) (x1:ByteArray) (hs:∀ s∈[x1],s.size≤140737488289792) :
 Calls Tryz.prog 45 #[.pointer (some ⟨b,0,none⟩),.slice (some ⟨W.heap.size,0,none⟩) 1 1] (W.alloc (.cells #[.string x1] 9)) (PutP b txt (ln deep [x1.data.toList]) deep fs W):=by
 have h:=p_lineL hw hd ht [x1] (by simp) hs
 rw [ln_cat] at h
 exact h
theorem p_line3 {b:Nat} {txt:List UInt8} {deep:Nat} {fs:List Value} {W:World} (hw:Wt b txt deep fs W) (hd:deep≤1000) (ht:txt.length≤65536) (x1 x2 x3:ByteArray) (hs:∀ s∈[x1,x2,x3],s.size≤140737488289792) :
 Calls Tryz.prog 45 #[.pointer (some ⟨b,0,none⟩),.slice (some ⟨W.heap.size,0,none⟩) 3 3] (W.alloc (.cells #[.string x1,.string x2,.string x3] 9)) (PutP b txt (ln deep [x1.data.toList,x2.data.toList,x3.data.toList]) deep fs W):=by
 have h:=p_lineL hw hd ht [x1,x2,x3] (by simp) hs
 rw [ln_cat] at h
 exact h
theorem p_line4 {b:Nat} {txt:List UInt8} {deep:Nat} {fs:List Value} {W:World} (hw:Wt b txt deep fs W) (hd:deep≤1000) (ht:txt.length≤65536) (x1 x2 x3 x4:ByteArray) (hs:∀ s∈[x1,x2,x3,x4],s.size≤140737488289792) :
 Calls Tryz.prog 45 #[.pointer (some ⟨b,0,none⟩),.slice (some ⟨W.heap.size,0,none⟩) 4 4] (W.alloc (.cells #[.string x1,.string x2,.string x3,.string x4] 9)) (PutP b txt (ln deep [x1.data.toList,x2.data.toList,x3.data.toList,x4.data.toList]) deep fs W):=by
 have h:=p_lineL hw hd ht [x1,x2,x3,x4] (by simp) hs
 rw [ln_cat] at h
 exact h
theorem p_line6 {b:Nat} {txt:List UInt8} {deep:Nat} {fs:List Value} {W:World} (hw:Wt b txt deep fs W) (hd:deep≤1000) (ht:txt.length≤65536) (x1 x2 x3 x4 x5 x6:ByteArray) (hs:∀ s∈[x1,x2,x3,x4,x5,x6],s.size≤140737488289792) :
 Calls Tryz.prog 45 #[.pointer (some ⟨b,0,none⟩),.slice (some ⟨W.heap.size,0,none⟩) 6 6] (W.alloc (.cells #[.string x1,.string x2,.string x3,.string x4,.string x5,.string x6] 9)) (PutP b txt (ln deep [x1.data.toList,x2.data.toList,x3.data.toList,x4.data.toList,x5.data.toList,x6.data.toList]) deep fs W):=by
 have h:=p_lineL hw hd ht [x1,x2,x3,x4,x5,x6] (by simp) hs
 rw [ln_cat] at h
 exact h
theorem p_wskip {k:Int} {nm ot:ByteArray} {es:List Ex} {bo el:List St} {ps:Int} {a3 a4 a5:Option Addr} {c3 c4 c5:Nat} {w0 w:World} {b:Nat} {txt:List UInt8} {d:Nat} {fs:List Value} (hd:d≤64) (TT:WTb w0) (hb0:b=w0.heap.size) (hbw:Below b w0 w) (hw:Wt b txt d fs w) (ht:txt.length≤65536) :
 Calls Tryz.prog 85 #[.pointer (some ⟨b,0,none⟩),.agg #[.int .u8 k,.string nm,.string ot,.slice a3 es.length c3,.slice a4 bo.length c4,.slice a5 el.length c5,.int .i64 ps]] w (PutP b txt (ln d [[115,107,105,112,59]]) d fs w):=by
 generalize es.length=n3
 have HL1:Hid (∀ t W,Wt b t d fs W→t.length≤65536→Calls Tryz.prog 45 #[.pointer (some ⟨b,0,none⟩),.slice (some ⟨W.heap.size,0,none⟩) 1 1] (W.alloc (.cells #[.string ⟨#[115,107,105,112,59]⟩] 9)) (PutP b t (ln d [[115,107,105,112,59]]) d fs W)):=fun t W hw ht=>p_line1 hw (by omega) ht ⟨#[115,107,105,112,59]⟩ (fun s hs=>by
  simp only [List.mem_cons,List.not_mem_nil,or_false] at hs
  subst hs;decide)
 generalize ln d [[115,107,105,112,59]]=q1 at HL1 ⊢
 generalize bo.length=n4
 generalize el.length=n5
 have HT:=Lib.hid ht
 have hlt:=hw.lt
 have al:Below w.heap.size w (w.alloc (.cells #[.int .u8 k,.string nm,.string ot,.slice a3 n3 c3,.slice a4 n4 c4,.slice a5 n5 c5,.int .i64 ps] 66)):=(Below.refl _ w).alloc (Nat.le_refl _) _
 have HX0:Hid (Sst w0 w b w.heap.size #[.int .u8 k,.string nm,.string ot,.slice a3 n3 c3,.slice a4 n4 c4,.slice a5 n5 c5,.int .i64 ps] txt d fs (w.alloc (.cells #[.int .u8 k,.string nm,.string ot,.slice a3 n3 c3,.slice a4 n4 c4,.slice a5 n5 c5,.int .i64 ps] 66))):=⟨Own.new w _ _,hw.below al,hbw.trans (al.mono (Nat.le_of_lt hlt)),keep_below al,al.mono (Nat.le_of_lt hlt)⟩
 have HG:Hid (w.heap.size≠b):=by rw [Hid];omega
 clear TT hbw hw ht hlt al hd hb0
 obtain ⟨W0,hW0⟩:∃ W,W=w.alloc (.cells #[.int .u8 k,.string nm,.string ot,.slice a3 n3 c3,.slice a4 n4 c4,.slice a5 n5 c5,.int .i64 ps] 66):=⟨_,rfl⟩
 rw [← hW0] at HX0
 have HW0:=Lib.hid hW0
 clear hW0
 go_enter Tryz.func85,Tryz.ntmps85
 go_upto_region 1 with (fail)
 rw [← HW0.out]
 clear HW0
 go_wp2_with fail
 go_at_call 45
 refine (HL1.out _ _ HX0.out.2.1 HT.out).mono ?_
 rintro e wl1 hh
 rcases hh.cases with ⟨hx,rfl,hw,hk,hb⟩ | ⟨hx,rfl,hb⟩
 rotate_left
 · go_wp2_with fail
   exact ⟨rfl,HX0.out.2.2.2.2.trans hb,.inr ⟨by simp at hx ⊢;omega,rfl⟩⟩
 have HX1:=Lib.hid (sst_put HX0.out HG.out hw hk hb)
 have HK1:=Lib.hid hx
 clear hx hw hk hb hh
 have HF:Hid (PutP b txt (q1) d fs w (.returned (.tuple #[])) wl1):=⟨HX1.out.2.2.2.2,.inl ⟨HK1.out,rfl,HX1.out.2.1,HX1.out.2.2.2.1⟩⟩
 go_wp2_with fail
 exact bodyPost_end (results_none rfl _ _ _) rfl HF.out
theorem p_wprint {k:Int} {nm ot:ByteArray} {es:List Ex} {bo el:List St} {ps:Int} {a3 a4 a5:Option Addr} {c3 c4 c5:Nat} {w0 w:World} {b:Nat} {txt:List UInt8} {d:Nat} {fs:List Value} (hd:d≤64) (TT:WTb w0) (hb0:b=w0.heap.size) (hbw:Below b w0 w) (hw:Wt b txt d fs w) (ht:txt.length≤65536) (h3:exsAt (fun _=>True) w0 es a3) {y:Ex} (hes:es=[y]) (hry:rE y 0=true) (hrgy:rgE y) :
 Calls Tryz.prog 84 #[.pointer (some ⟨b,0,none⟩),.agg #[.int .u8 k,.string nm,.string ot,.slice a3 es.length c3,.slice a4 bo.length c4,.slice a5 el.length c5,.int .i64 ps]] w (PutP b txt (ln d [[112,114,105,110,116,32],e0T es,[59]]) d fs w):=by
 subst hes
 obtain ⟨kY,oY,wY,nY,ksY,pY⟩:=y
 rcases h3 with e | ⟨g,q,e,_,e1⟩
 · cases e
 subst e
 obtain ⟨⟨f0,f1,f2,f3,⟨aY,cY,f4,y4⟩,f5⟩,_⟩:=e1
 have lg:=lt_of_at f0
 simp only at lg
 have HLG:Hid (g<b):=by rw [Hid,hb0];exact lg
 have HFY:=Lib.hid (And.intro f0 (And.intro f1 (And.intro f2 (And.intro f3 (And.intro f4 f5)))))
 have HEX:Hid (∀ W,Below b w0 W→Calls Tryz.prog 58 #[.agg #[.int .u8 kY,.int .u8 oY,.int .i64 wY,.string nY,.slice aY ksY.length cY,.int .i64 pY]] W (TxP W (tE (.mk kY oY wY nY ksY pY)))):=fun W hW=>p_wexpression (.mk kY oY wY nY ksY pY) 0 hry hrgy ⟨aY,cY,rfl,exsAt_below y4 (by rw [← hb0];exact hW)⟩ (TT.below (by rw [← hb0];exact hW))
 simp only [e0T]
 change Calls _ _ #[_,.agg #[.int .u8 k,.string nm,.string ot,.slice (some ⟨g,q,none⟩) 1 c3,.slice a4 bo.length c4,.slice a5 el.length c5,.int .i64 ps]] w _
 generalize tE (.mk kY oY wY nY ksY pY)=te at HEX ⊢
 generalize ksY.length=mY at HEX HFY
 clear f0 f1 f2 f3 f4 f5 y4 lg hry hrgy
 have HL1:Hid (∀ t W,Wt b t d fs W→t.length≤65536→te.length≤65536→Calls Tryz.prog 45 #[.pointer (some ⟨b,0,none⟩),.slice (some ⟨W.heap.size,0,none⟩) 3 3] (W.alloc (.cells #[.string ⟨#[112,114,105,110,116,32]⟩,.string ⟨te.toArray⟩,.string ⟨#[59]⟩] 9)) (PutP b t (ln d [[112,114,105,110,116,32],te,[59]]) d fs W)):=fun t W hw ht hte=>p_line3 hw (by omega) ht ⟨#[112,114,105,110,116,32]⟩ ⟨te.toArray⟩ ⟨#[59]⟩ (fun s hs=>by
  simp only [List.mem_cons,List.not_mem_nil,or_false] at hs
  rcases hs with rfl | rfl | rfl
  · decide
  · show te.toArray.size≤_;rw [List.size_toArray];omega
  · decide)
 have HM1:Hid (te.length≤(ln d [[112,114,105,110,116,32],te,[59]]).length):=ln_mem (by simp)
 generalize ln d [[112,114,105,110,116,32],te,[59]]=q1 at HL1 HM1 ⊢
 generalize bo.length=n4
 generalize el.length=n5
 have HT:=Lib.hid ht
 have hlt:=hw.lt
 have al:Below w.heap.size w (w.alloc (.cells #[.int .u8 k,.string nm,.string ot,.slice (some ⟨g,q,none⟩) 1 c3,.slice a4 n4 c4,.slice a5 n5 c5,.int .i64 ps] 66)):=(Below.refl _ w).alloc (Nat.le_refl _) _
 have HX0:Hid (Sst w0 w b w.heap.size #[.int .u8 k,.string nm,.string ot,.slice (some ⟨g,q,none⟩) 1 c3,.slice a4 n4 c4,.slice a5 n5 c5,.int .i64 ps] txt d fs (w.alloc (.cells #[.int .u8 k,.string nm,.string ot,.slice (some ⟨g,q,none⟩) 1 c3,.slice a4 n4 c4,.slice a5 n5 c5,.int .i64 ps] 66))):=⟨Own.new w _ _,hw.below al,hbw.trans (al.mono (Nat.le_of_lt hlt)),keep_below al,al.mono (Nat.le_of_lt hlt)⟩
 have HG:Hid (w.heap.size≠b):=by rw [Hid];omega
 clear TT hbw hw ht hlt al hd hb0
 obtain ⟨W0,hW0⟩:∃ W,W=w.alloc (.cells #[.int .u8 k,.string nm,.string ot,.slice (some ⟨g,q,none⟩) 1 c3,.slice a4 n4 c4,.slice a5 n5 c5,.int .i64 ps] 66):=⟨_,rfl⟩
 rw [← hW0] at HX0
 have HW0:=Lib.hid hW0
 clear hW0
 go_enter Tryz.func84,Tryz.ntmps84
 go_upto_region 1 with (fail)
 rw [← HW0.out]
 clear HW0
 have c3:W0.cell? ⟨w.heap.size,3,none⟩=some (.slice (some ⟨g,q,none⟩) 1 c3):=by rw [cell_of_row _ _ 3 _ _ _ HX0.out.1];rfl
 have f0:W0.cell? ⟨g,q,none⟩=some (.int .u8 kY):=(HX0.out.2.2.1.cell (p:=⟨g,q,none⟩) HLG.out).trans HFY.out.1
 have f1:W0.cell? ⟨g,q+1,none⟩=some (.int .u8 oY):=(HX0.out.2.2.1.cell (p:=⟨g,q+1,none⟩) HLG.out).trans HFY.out.2.1
 have f2:W0.cell? ⟨g,q+2,none⟩=some (.int .i64 wY):=(HX0.out.2.2.1.cell (p:=⟨g,q+2,none⟩) HLG.out).trans HFY.out.2.2.1
 have f3:W0.cell? ⟨g,q+3,none⟩=some (.string nY):=(HX0.out.2.2.1.cell (p:=⟨g,q+3,none⟩) HLG.out).trans HFY.out.2.2.2.1
 have f4:W0.cell? ⟨g,q+4,none⟩=some (.slice aY mY cY):=(HX0.out.2.2.1.cell (p:=⟨g,q+4,none⟩) HLG.out).trans HFY.out.2.2.2.2.1
 have f5:W0.cell? ⟨g,q+5,none⟩=some (.int .i64 pY):=(HX0.out.2.2.1.cell (p:=⟨g,q+5,none⟩) HLG.out).trans HFY.out.2.2.2.2.2
 go_wp2_with fail
 go_at_call 58
 refine (HEX.out _ HX0.out.2.2.1).mono ?_
 rintro e we1 ⟨hbe,hee⟩
 have HXe1:=Lib.hid (sst_below HX0.out hbe)
 clear hbe
 rcases hee with ⟨hte,rfl⟩ | ⟨hte,rfl⟩
 rotate_left
 · have hm := HM1.out
   go_wp2_with fail
   exact ⟨rfl,HXe1.out.2.2.2.2,.inr ⟨by simp;omega,rfl⟩⟩
 have HTE:=Lib.hid hte
 clear hte c3 f0 f1 f2 f3 f4 f5
 go_wp2_with fail
 go_at_call 45
 refine (HL1.out _ _ HXe1.out.2.1 HT.out HTE.out).mono ?_
 rintro e wl1 hh
 rcases hh.cases with ⟨hx,rfl,hw,hk,hb⟩ | ⟨hx,rfl,hb⟩
 rotate_left
 · go_wp2_with fail
   exact ⟨rfl,HXe1.out.2.2.2.2.trans hb,.inr ⟨by simp at hx ⊢;omega,rfl⟩⟩
 have HX1:=Lib.hid (sst_put HXe1.out HG.out hw hk hb)
 have HK1:=Lib.hid hx
 clear hx hw hk hb hh
 have HF:Hid (PutP b txt (q1) d fs w (.returned (.tuple #[])) wl1):=⟨HX1.out.2.2.2.2,.inl ⟨HK1.out,rfl,HX1.out.2.1,HX1.out.2.2.2.1⟩⟩
 go_wp2_with fail
 exact bodyPost_end (results_none rfl _ _ _) rfl HF.out
theorem p_wloop {k:Int} {nm ot:ByteArray} {es:List Ex} {bo el:List St} {ps:Int} {a3 a4 a5:Option Addr} {c3 c4 c5:Nat} {w0 w:World} {b:Nat} {txt:List UInt8} {d:Nat} {fs:List Value} (hd:d≤64) (TT:WTb w0) (hb0:b=w0.heap.size) (hbw:Below b w0 w) (hw:Wt b txt d fs w) (ht:txt.length≤65536) (h3:exsAt (fun _=>True) w0 es a3) {y:Ex} (hes:es=[y]) (hry:rE y 0=true) (hrgy:rgE y) (HB40:∀ t W,Below b w0 W→Wt b t d fs W→t.length≤65536→Calls Tryz.prog 46 #[.pointer (some ⟨b,0,none⟩),.slice a4 bo.length c4] W (PutP b t (tSs bo (d+1)) d fs W)) :
 Calls Tryz.prog 82 #[.pointer (some ⟨b,0,none⟩),.agg #[.int .u8 k,.string nm,.string ot,.slice a3 es.length c3,.slice a4 bo.length c4,.slice a5 el.length c5,.int .i64 ps]] w (PutP b txt (ln d [[119,104,105,108,101,32,40],e0T es,[41,32,123]]++tSs bo (d+1)++ln d [[125]]) d fs w):=by
 subst hes
 obtain ⟨kY,oY,wY,nY,ksY,pY⟩:=y
 rcases h3 with e | ⟨g,q,e,_,e1⟩
 · cases e
 subst e
 obtain ⟨⟨f0,f1,f2,f3,⟨aY,cY,f4,y4⟩,f5⟩,_⟩:=e1
 have lg:=lt_of_at f0
 simp only at lg
 have HLG:Hid (g<b):=by rw [Hid,hb0];exact lg
 have HFY:=Lib.hid (And.intro f0 (And.intro f1 (And.intro f2 (And.intro f3 (And.intro f4 f5)))))
 have HEX:Hid (∀ W,Below b w0 W→Calls Tryz.prog 58 #[.agg #[.int .u8 kY,.int .u8 oY,.int .i64 wY,.string nY,.slice aY ksY.length cY,.int .i64 pY]] W (TxP W (tE (.mk kY oY wY nY ksY pY)))):=fun W hW=>p_wexpression (.mk kY oY wY nY ksY pY) 0 hry hrgy ⟨aY,cY,rfl,exsAt_below y4 (by rw [← hb0];exact hW)⟩ (TT.below (by rw [← hb0];exact hW))
 simp only [e0T]
 change Calls _ _ #[_,.agg #[.int .u8 k,.string nm,.string ot,.slice (some ⟨g,q,none⟩) 1 c3,.slice a4 bo.length c4,.slice a5 el.length c5,.int .i64 ps]] w _
 generalize tE (.mk kY oY wY nY ksY pY)=te at HEX ⊢
 generalize ksY.length=mY at HEX HFY
 clear f0 f1 f2 f3 f4 f5 y4 lg hry hrgy
 have HL1:Hid (∀ t W,Wt b t d fs W→t.length≤65536→te.length≤65536→Calls Tryz.prog 45 #[.pointer (some ⟨b,0,none⟩),.slice (some ⟨W.heap.size,0,none⟩) 3 3] (W.alloc (.cells #[.string ⟨#[119,104,105,108,101,32,40]⟩,.string ⟨te.toArray⟩,.string ⟨#[41,32,123]⟩] 9)) (PutP b t (ln d [[119,104,105,108,101,32,40],te,[41,32,123]]) d fs W)):=fun t W hw ht hte=>p_line3 hw (by omega) ht ⟨#[119,104,105,108,101,32,40]⟩ ⟨te.toArray⟩ ⟨#[41,32,123]⟩ (fun s hs=>by
  simp only [List.mem_cons,List.not_mem_nil,or_false] at hs
  rcases hs with rfl | rfl | rfl
  · decide
  · show te.toArray.size≤_;rw [List.size_toArray];omega
  · decide)
 have HM1:Hid (te.length≤(ln d [[119,104,105,108,101,32,40],te,[41,32,123]]).length):=ln_mem (by simp)
 generalize ln d [[119,104,105,108,101,32,40],te,[41,32,123]]=q1 at HL1 HM1 ⊢
 have HL2:Hid (∀ t W,Wt b t d fs W→t.length≤65536→Calls Tryz.prog 45 #[.pointer (some ⟨b,0,none⟩),.slice (some ⟨W.heap.size,0,none⟩) 1 1] (W.alloc (.cells #[.string ⟨#[125]⟩] 9)) (PutP b t (ln d [[125]]) d fs W)):=fun t W hw ht=>p_line1 hw (by omega) ht ⟨#[125]⟩ (fun s hs=>by
  simp only [List.mem_cons,List.not_mem_nil,or_false] at hs
  subst hs;decide)
 generalize ln d [[125]]=q2 at HL2 ⊢
 have HB4:=Lib.hid HB40
 clear HB40
 generalize tSs bo (d+1)=r4 at HB4 ⊢
 generalize bo.length=n4 at HB4 ⊢
 generalize el.length=n5
 have HT:=Lib.hid ht
 have hlt:=hw.lt
 have al:Below w.heap.size w (w.alloc (.cells #[.int .u8 k,.string nm,.string ot,.slice (some ⟨g,q,none⟩) 1 c3,.slice a4 n4 c4,.slice a5 n5 c5,.int .i64 ps] 66)):=(Below.refl _ w).alloc (Nat.le_refl _) _
 have HX0:Hid (Sst w0 w b w.heap.size #[.int .u8 k,.string nm,.string ot,.slice (some ⟨g,q,none⟩) 1 c3,.slice a4 n4 c4,.slice a5 n5 c5,.int .i64 ps] txt d fs (w.alloc (.cells #[.int .u8 k,.string nm,.string ot,.slice (some ⟨g,q,none⟩) 1 c3,.slice a4 n4 c4,.slice a5 n5 c5,.int .i64 ps] 66))):=⟨Own.new w _ _,hw.below al,hbw.trans (al.mono (Nat.le_of_lt hlt)),keep_below al,al.mono (Nat.le_of_lt hlt)⟩
 have HG:Hid (w.heap.size≠b):=by rw [Hid];omega
 clear TT hbw hw ht hlt al hd hb0
 obtain ⟨W0,hW0⟩:∃ W,W=w.alloc (.cells #[.int .u8 k,.string nm,.string ot,.slice (some ⟨g,q,none⟩) 1 c3,.slice a4 n4 c4,.slice a5 n5 c5,.int .i64 ps] 66):=⟨_,rfl⟩
 rw [← hW0] at HX0
 have HW0:=Lib.hid hW0
 clear hW0
 go_enter Tryz.func82,Tryz.ntmps82
 go_upto_region 1 with (fail)
 rw [← HW0.out]
 clear HW0
 have c3:W0.cell? ⟨w.heap.size,3,none⟩=some (.slice (some ⟨g,q,none⟩) 1 c3):=by rw [cell_of_row _ _ 3 _ _ _ HX0.out.1];rfl
 have f0:W0.cell? ⟨g,q,none⟩=some (.int .u8 kY):=(HX0.out.2.2.1.cell (p:=⟨g,q,none⟩) HLG.out).trans HFY.out.1
 have f1:W0.cell? ⟨g,q+1,none⟩=some (.int .u8 oY):=(HX0.out.2.2.1.cell (p:=⟨g,q+1,none⟩) HLG.out).trans HFY.out.2.1
 have f2:W0.cell? ⟨g,q+2,none⟩=some (.int .i64 wY):=(HX0.out.2.2.1.cell (p:=⟨g,q+2,none⟩) HLG.out).trans HFY.out.2.2.1
 have f3:W0.cell? ⟨g,q+3,none⟩=some (.string nY):=(HX0.out.2.2.1.cell (p:=⟨g,q+3,none⟩) HLG.out).trans HFY.out.2.2.2.1
 have f4:W0.cell? ⟨g,q+4,none⟩=some (.slice aY mY cY):=(HX0.out.2.2.1.cell (p:=⟨g,q+4,none⟩) HLG.out).trans HFY.out.2.2.2.2.1
 have f5:W0.cell? ⟨g,q+5,none⟩=some (.int .i64 pY):=(HX0.out.2.2.1.cell (p:=⟨g,q+5,none⟩) HLG.out).trans HFY.out.2.2.2.2.2
 go_wp2_with fail
 go_at_call 58
 refine (HEX.out _ HX0.out.2.2.1).mono ?_
 rintro e we1 ⟨hbe,hee⟩
 have HXe1:=Lib.hid (sst_below HX0.out hbe)
 clear hbe
 rcases hee with ⟨hte,rfl⟩ | ⟨hte,rfl⟩
 rotate_left
 · have hm := HM1.out
   go_wp2_with fail
   exact ⟨rfl,HXe1.out.2.2.2.2,.inr ⟨by simp;omega,rfl⟩⟩
 have HTE:=Lib.hid hte
 clear hte c3 f0 f1 f2 f3 f4 f5
 go_wp2_with fail
 go_at_call 45
 refine (HL1.out _ _ HXe1.out.2.1 HT.out HTE.out).mono ?_
 rintro e wl1 hh
 rcases hh.cases with ⟨hx,rfl,hw,hk,hb⟩ | ⟨hx,rfl,hb⟩
 rotate_left
 · go_wp2_with fail
   exact ⟨rfl,HXe1.out.2.2.2.2.trans hb,.inr ⟨by simp at hx ⊢;omega,rfl⟩⟩
 have HX1:=Lib.hid (sst_put HXe1.out HG.out hw hk hb)
 have HK1:=Lib.hid hx
 clear hx hw hk hb hh
 have c4:wl1.cell? ⟨w.heap.size,4,none⟩=some (.slice a4 n4 c4):=by rw [cell_of_row _ _ 4 _ _ _ HX1.out.1];rfl
 go_wp2_with fail
 go_at_call 46
 refine (HB4.out _ _ HX1.out.2.2.1 HX1.out.2.1 HK1.out).mono ?_
 rintro e wb2 hh
 rcases hh.cases with ⟨hx,rfl,hw,hk,hb⟩ | ⟨hx,rfl,hb⟩
 rotate_left
 · go_wp2_with fail
   exact ⟨rfl,HX1.out.2.2.2.2.trans hb,.inr ⟨by simp at hx ⊢;omega,rfl⟩⟩
 have HX2:=Lib.hid (sst_put HX1.out HG.out hw hk hb)
 have HK2:=Lib.hid hx
 clear hx hw hk hb hh c4
 go_wp2_with fail
 go_at_call 45
 refine (HL2.out _ _ HX2.out.2.1 HK2.out).mono ?_
 rintro e wl3 hh
 rcases hh.cases with ⟨hx,rfl,hw,hk,hb⟩ | ⟨hx,rfl,hb⟩
 rotate_left
 · go_wp2_with fail
   exact ⟨rfl,HX2.out.2.2.2.2.trans hb,.inr ⟨by simp at hx ⊢;omega,rfl⟩⟩
 have HX3:=Lib.hid (sst_put HX2.out HG.out hw hk hb)
 have HK3:=Lib.hid hx
 clear hx hw hk hb hh
 have he:txt++(q1++r4++q2)=txt++q1++r4++q2:=by simp
 have HF:Hid (PutP b txt (q1++r4++q2) d fs w (.returned (.tuple #[])) wl3):=⟨HX3.out.2.2.2.2,.inl ⟨by rw [he];exact HK3.out,rfl,by rw [he];exact HX3.out.2.1,HX3.out.2.2.2.1⟩⟩
 clear he
 go_wp2_with fail
 exact bodyPost_end (results_none rfl _ _ _) rfl HF.out
theorem p_wguard {k:Int} {nm ot:ByteArray} {es:List Ex} {bo el:List St} {ps:Int} {a3 a4 a5:Option Addr} {c3 c4 c5:Nat} {w0 w:World} {b:Nat} {txt:List UInt8} {d:Nat} {fs:List Value} (hd:d≤64) (TT:WTb w0) (hb0:b=w0.heap.size) (hbw:Below b w0 w) (hw:Wt b txt d fs w) (ht:txt.length≤65536) (HB40:∀ t W,Below b w0 W→Wt b t d fs W→t.length≤65536→Calls Tryz.prog 46 #[.pointer (some ⟨b,0,none⟩),.slice a4 bo.length c4] W (PutP b t (tSs bo (d+1)) d fs W)) (hnm:nm.size≤140737488289792) :
 Calls Tryz.prog 83 #[.pointer (some ⟨b,0,none⟩),.agg #[.int .u8 k,.string nm,.string ot,.slice a3 es.length c3,.slice a4 bo.length c4,.slice a5 el.length c5,.int .i64 ps]] w (PutP b txt (ln d [[108,111,99,107,32],nm.data.toList,[32,123]]++tSs bo (d+1)++ln d [[125]]) d fs w):=by
 generalize es.length=n3
 have HL1:Hid (∀ t W,Wt b t d fs W→t.length≤65536→Calls Tryz.prog 45 #[.pointer (some ⟨b,0,none⟩),.slice (some ⟨W.heap.size,0,none⟩) 3 3] (W.alloc (.cells #[.string ⟨#[108,111,99,107,32]⟩,.string nm,.string ⟨#[32,123]⟩] 9)) (PutP b t (ln d [[108,111,99,107,32],nm.data.toList,[32,123]]) d fs W)):=fun t W hw ht=>p_line3 hw (by omega) ht ⟨#[108,111,99,107,32]⟩ nm ⟨#[32,123]⟩ (fun s hs=>by
  simp only [List.mem_cons,List.not_mem_nil,or_false] at hs
  rcases hs with rfl | rfl | rfl
  · decide
  · exact hnm
  · decide)
 generalize ln d [[108,111,99,107,32],nm.data.toList,[32,123]]=q1 at HL1 ⊢
 have HL2:Hid (∀ t W,Wt b t d fs W→t.length≤65536→Calls Tryz.prog 45 #[.pointer (some ⟨b,0,none⟩),.slice (some ⟨W.heap.size,0,none⟩) 1 1] (W.alloc (.cells #[.string ⟨#[125]⟩] 9)) (PutP b t (ln d [[125]]) d fs W)):=fun t W hw ht=>p_line1 hw (by omega) ht ⟨#[125]⟩ (fun s hs=>by
  simp only [List.mem_cons,List.not_mem_nil,or_false] at hs
  subst hs;decide)
 generalize ln d [[125]]=q2 at HL2 ⊢
 have HB4:=Lib.hid HB40
 clear HB40
 generalize tSs bo (d+1)=r4 at HB4 ⊢
 generalize bo.length=n4 at HB4 ⊢
 generalize el.length=n5
 have HT:=Lib.hid ht
 have hlt:=hw.lt
 have al:Below w.heap.size w (w.alloc (.cells #[.int .u8 k,.string nm,.string ot,.slice a3 n3 c3,.slice a4 n4 c4,.slice a5 n5 c5,.int .i64 ps] 66)):=(Below.refl _ w).alloc (Nat.le_refl _) _
 have HX0:Hid (Sst w0 w b w.heap.size #[.int .u8 k,.string nm,.string ot,.slice a3 n3 c3,.slice a4 n4 c4,.slice a5 n5 c5,.int .i64 ps] txt d fs (w.alloc (.cells #[.int .u8 k,.string nm,.string ot,.slice a3 n3 c3,.slice a4 n4 c4,.slice a5 n5 c5,.int .i64 ps] 66))):=⟨Own.new w _ _,hw.below al,hbw.trans (al.mono (Nat.le_of_lt hlt)),keep_below al,al.mono (Nat.le_of_lt hlt)⟩
 have HG:Hid (w.heap.size≠b):=by rw [Hid];omega
 clear TT hbw hw ht hlt al hd hb0 hnm
 obtain ⟨W0,hW0⟩:∃ W,W=w.alloc (.cells #[.int .u8 k,.string nm,.string ot,.slice a3 n3 c3,.slice a4 n4 c4,.slice a5 n5 c5,.int .i64 ps] 66):=⟨_,rfl⟩
 rw [← hW0] at HX0
 have HW0:=Lib.hid hW0
 clear hW0
 go_enter Tryz.func83,Tryz.ntmps83
 go_upto_region 1 with (fail)
 rw [← HW0.out]
 clear HW0
 have c1:W0.cell? ⟨w.heap.size,1,none⟩=some (.string nm):=by rw [cell_of_row _ _ 1 _ _ _ HX0.out.1];rfl
 go_wp2_with fail
 go_at_call 45
 refine (HL1.out _ _ HX0.out.2.1 HT.out).mono ?_
 rintro e wl1 hh
 rcases hh.cases with ⟨hx,rfl,hw,hk,hb⟩ | ⟨hx,rfl,hb⟩
 rotate_left
 · go_wp2_with fail
   exact ⟨rfl,HX0.out.2.2.2.2.trans hb,.inr ⟨by simp at hx ⊢;omega,rfl⟩⟩
 have HX1:=Lib.hid (sst_put HX0.out HG.out hw hk hb)
 have HK1:=Lib.hid hx
 clear hx hw hk hb hh c1
 have c4:wl1.cell? ⟨w.heap.size,4,none⟩=some (.slice a4 n4 c4):=by rw [cell_of_row _ _ 4 _ _ _ HX1.out.1];rfl
 go_wp2_with fail
 go_at_call 46
 refine (HB4.out _ _ HX1.out.2.2.1 HX1.out.2.1 HK1.out).mono ?_
 rintro e wb2 hh
 rcases hh.cases with ⟨hx,rfl,hw,hk,hb⟩ | ⟨hx,rfl,hb⟩
 rotate_left
 · go_wp2_with fail
   exact ⟨rfl,HX1.out.2.2.2.2.trans hb,.inr ⟨by simp at hx ⊢;omega,rfl⟩⟩
 have HX2:=Lib.hid (sst_put HX1.out HG.out hw hk hb)
 have HK2:=Lib.hid hx
 clear hx hw hk hb hh c4
 go_wp2_with fail
 go_at_call 45
 refine (HL2.out _ _ HX2.out.2.1 HK2.out).mono ?_
 rintro e wl3 hh
 rcases hh.cases with ⟨hx,rfl,hw,hk,hb⟩ | ⟨hx,rfl,hb⟩
 rotate_left
 · go_wp2_with fail
   exact ⟨rfl,HX2.out.2.2.2.2.trans hb,.inr ⟨by simp at hx ⊢;omega,rfl⟩⟩
 have HX3:=Lib.hid (sst_put HX2.out HG.out hw hk hb)
 have HK3:=Lib.hid hx
 clear hx hw hk hb hh
 have he:txt++(q1++r4++q2)=txt++q1++r4++q2:=by simp
 have HF:Hid (PutP b txt (q1++r4++q2) d fs w (.returned (.tuple #[])) wl3):=⟨HX3.out.2.2.2.2,.inl ⟨by rw [he];exact HK3.out,rfl,by rw [he];exact HX3.out.2.1,HX3.out.2.2.2.1⟩⟩
 clear he
 go_wp2_with fail
 exact bodyPost_end (results_none rfl _ _ _) rfl HF.out
end Go.Proofs.YtieeaehabjjaoaaGreatDoor

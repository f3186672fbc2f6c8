/- The proof, part 8: texts that belong together, in one. -/
import Derived.Test.YtieeaehabjjaoaaGreatDoorHAG
set_option maxRecDepth 100000
set_option maxHeartbeats 20000000
namespace Go.Proofs.YtieeaehabjjaoaaGreatDoor
open Go.RowKit
set_option linter.unusedVariables false
set_option maxRecDepth 100000
def kidT (b:Bool) (t:List UInt8):List UInt8:=bif b then [40]++t++[41] else t
def kid1T (ks:List Ex) (ts:List (List UInt8)):List UInt8:=match ks,ts with | [x],[t]=>kidT (x.kind==4) t | _,_=>[]
def kid2T (o:Int) (ks:List Ex) (ts:List (List UInt8)):List UInt8:=match ks,ts with | [x,y],[t,u]=>kidT (wrL o x) t++([32]++signOf o++[32])++kidT (wrR o y) u | _,_=>[]
def tK (k o wd:Int) (n:ByteArray) (ks:List Ex) (ts:List (List UInt8)):List UInt8 :=
 if k=1 then Lib.itoa wd else if k=2 then n.data.toList else if k=3 then signOf o++kid1T ks ts else if k=4 then kid2T o ks ts else []
mutual
def tE:Ex→List UInt8
 | .mk k o wd n ks _=>tK k o wd n ks (tEs ks)
def tEs:List Ex→List (List UInt8)
 | []=>[]
 | x::r=>tE x::tEs r
end
theorem name_size {n:ByteArray} (h:nameB n=true):n.size≤32:=by
 unfold nameB at h
 simp only [Bool.and_eq_true,decide_eq_true_eq] at h
 exact h.2.1
theorem sign_len (o:Int):(signOf o).length≤2:=by
 unfold signOf
 split
 · simp
 · have : ∀ i, i < 19 → (sgn.getD i []).length ≤ 2 := by decide
   exact this _ (by omega)
def Xst (w0 w:World) (b gx:Nat) (row:Array Value) (t:List UInt8) (deep:Int) (fs:List Value) (W:World):Prop :=
 Own W gx 59 row∧Wt b t deep fs W∧Below b w0 W∧Keep (selW b) w W∧Below b w W
theorem not_u8E {cs:Array Value} : ¬ IsTy 5 (.cells cs 59):=by
 rintro ⟨c,f,h⟩
 cases h
section
variable {w0 w W W':World} {b gx:Nat} {row:Array Value} {t:List UInt8} {deep:Int} {fs:List Value}
theorem xst_below (h:Xst w0 w b gx row t deep fs W) (hb:Below W.heap.size W W'):Xst w0 w b gx row t deep fs W':=by
 obtain ⟨h1,h2,h3,h4,h5⟩:=h
 have hb':Below b W W':=hb.mono (Nat.le_of_lt h2.lt)
 exact ⟨h1.below hb,h2.below hb,h3.trans hb',h4.trans (keep_below hb),h5.trans hb'⟩
theorem xst_put (h:Xst w0 w b gx row t deep fs W) (hg:gx≠b) {t':List UInt8} (hw:Wt b t' deep fs W') (hk:Keep (selW b) W W') (hb:Below b W W'):Xst w0 w b gx row t' deep fs W':=by
 obtain ⟨h1,h2,h3,h4,h5⟩:=h
 exact ⟨hk.block _ _ h1 ⟨hg,not_u8E⟩,hw,h3.trans hb,h4.trans hk,h5.trans hb⟩
end
def WrE (x:Ex):Prop:=∀ d,rE x d=true→rgE x→∀ (v:Value) (w0 w:World) (b:Nat) (txt:List UInt8) (deep:Int) (fs:List Value),exA w0 x v→WTb w0→b=w0.heap.size→Below b w0 w→Wt b txt deep fs w→txt.length≤65536 →
 Calls Tryz.prog 104 #[.pointer (some ⟨b,0,none⟩),v] w (PutP b txt (tE x) deep fs w)
theorem p_kid (x:Ex) (HX:WrE x) (wr:Bool) (d:Int) (hr:rE x d=true) (hrg:rgE x) {v:Value} {w0 w:World} {b:Nat} {txt:List UInt8} {deep:Int} {fs:List Value} (hv:exA w0 x v) (TT:WTb w0) (hb0:b=w0.heap.size) (hbw:Below b w0 w) (hw:Wt b txt deep fs w) (ht:txt.length≤65536) :
 Calls Tryz.prog 137 #[.pointer (some ⟨b,0,none⟩),v,.bool wr] w (PutP b txt (kidT wr (tE x)) deep fs w):=by
 have HE:Hid (∀ t W,Below b w0 W→Wt b t deep fs W→t.length≤65536→Calls Tryz.prog 104 #[.pointer (some ⟨b,0,none⟩),v] W (PutP b t (tE x) deep fs W)):=fun t W h1 h2 h3=>HX d hr hrg v w0 W b t deep fs hv TT hb0 h1 h2 h3
 have HP1:Hid (∀ t W s,Wt b t deep fs W→t.length≤65536→s.size≤140737488289792→Calls Tryz.prog 87 #[.pointer (some ⟨b,0,none⟩),.slice (some ⟨W.heap.size,0,none⟩) 1 1] (W.alloc (.cells #[.string s] 9)) (PutP b t s.data.toList deep fs W)):=fun t W s hw ht hz=>p_put1 hw ht s hz
 obtain ⟨a,cap,rfl,_⟩:=hv
 generalize x.kind=k,x.op=o,x.wd=wd,x.name=n,x.kids.length=m,x.pos=ps at HE ⊢
 generalize tE x=tx at HE ⊢
 have HT:=Lib.hid ht
 have hlt:=hw.lt
 have al:Below w.heap.size w (w.alloc (.cells #[.int .u8 k,.int .u8 o,.int .i64 wd,.string n,.slice a m cap,.int .i64 ps] 59)):=(Below.refl _ w).alloc (Nat.le_refl _) _
 have HX0:Hid (Xst w0 w b w.heap.size #[.int .u8 k,.int .u8 o,.int .i64 wd,.string n,.slice a m cap,.int .i64 ps] txt deep fs (w.alloc (.cells #[.int .u8 k,.int .u8 o,.int .i64 wd,.string n,.slice a m cap,.int .i64 ps] 59))):=⟨Own.new w _ _,hw.below al,hbw.trans (al.mono (Nat.le_of_lt hlt)),keep_below al,al.mono (Nat.le_of_lt hlt)⟩
 have HG:Hid (w.heap.size≠b):=by rw [Hid];omega
 clear hr hrg TT hb0 hbw hw ht HX hlt al
 obtain ⟨W0,hW0⟩:∃ W,W=w.alloc (.cells #[.int .u8 k,.int .u8 o,.int .i64 wd,.string n,.slice a m cap,.int .i64 ps] 59):=⟨_,rfl⟩
 rw [← hW0] at HX0
 have HW0:=Lib.hid hW0
 clear hW0
 cases wr with
 | false =>
   show Calls _ _ _ _ (PutP b txt tx deep fs w)
   have O1:=HX0.out.1
   go_enter Tryz.func137,Tryz.ntmps137
   go_upto_region 1 with (fail)
   rw [← HW0.out]
   go_wp2_with (refine ld rowEx rfl rfl rfl O1 rfl ?_)
   go_at_call 104
   refine (HE.out _ _ HX0.out.2.2.1 HX0.out.2.1 HT.out).mono ?_
   rintro e w2 hh
   rcases hh.cases with ⟨hx,rfl,hw,hk,hb⟩ | ⟨hx,rfl,hb⟩
   rotate_left
   · go_wp2_with fail
     exact ⟨rfl,HX0.out.2.2.2.2.trans hb,.inr ⟨hx,rfl⟩⟩
   have HF:Hid (PutP b txt tx deep fs w (.returned (.tuple #[])) w2):=⟨HX0.out.2.2.2.2.trans hb,.inl ⟨hx,rfl,hw,HX0.out.2.2.2.1.trans hk⟩⟩
   clear hx hw hk hb
   go_wp2_with fail
   exact bodyPost_ret (results_none rfl _ _ _) rfl HF.out
 | true =>
   show Calls _ _ _ _ (PutP b txt ([40]++tx++[41]) deep fs w)
   go_enter Tryz.func137,Tryz.ntmps137
   go_upto_region 1 with (fail)
   rw [← HW0.out]
   go_wp2_with fail
   go_at_call 87
   refine (HP1.out _ _ _ HX0.out.2.1 HT.out (by decide)).mono ?_
   rintro e w2 hh
   rcases hh.cases with ⟨hx,rfl,hw,hk,hb⟩ | ⟨hx,rfl,hb⟩
   rotate_left
   · go_wp2_with fail
     exact ⟨rfl,HX0.out.2.2.2.2.trans hb,.inr ⟨by simp only [List.length_append,List.length_cons,List.length_nil] at hx ⊢;omega,rfl⟩⟩
   have HX2:=Lib.hid (xst_put HX0.out HG.out hw hk hb)
   have HL2:=Lib.hid hx
   clear hx hw hk hb HX0 HW0
   have O1:=HX2.out.1
   go_wp2_with (refine ld rowEx rfl rfl rfl O1 rfl ?_)
   go_at_call 104
   refine (HE.out _ _ HX2.out.2.2.1 HX2.out.2.1 HL2.out).mono ?_
   rintro e w3 hh
   rcases hh.cases with ⟨hx,rfl,hw,hk,hb⟩ | ⟨hx,rfl,hb⟩
   rotate_left
   · go_wp2_with fail
     exact ⟨rfl,HX2.out.2.2.2.2.trans hb,.inr ⟨by simp only [List.length_append,List.length_cons,List.length_nil] at hx ⊢;omega,rfl⟩⟩
   have HX3:=Lib.hid (xst_put HX2.out HG.out hw hk hb)
   have HL3:=Lib.hid hx
   clear hx hw hk hb O1
   go_wp2_with fail
   go_at_call 87
   refine (HP1.out _ _ _ HX3.out.2.1 HL3.out (by decide)).mono ?_
   rintro e w4 hh
   rcases hh.cases with ⟨hx,rfl,hw,hk,hb⟩ | ⟨hx,rfl,hb⟩
   rotate_left
   · go_wp2_with fail
     exact ⟨rfl,HX3.out.2.2.2.2.trans hb,.inr ⟨by simp only [List.length_append,List.length_cons,List.length_nil] at hx ⊢;omega,rfl⟩⟩
   have he:txt++([40]++tx++[41])=txt++[40]++tx++[41]:=by simp
   have HF:Hid (PutP b txt ([40]++tx++[41]) deep fs w (.returned (.tuple #[])) w4):=⟨HX3.out.2.2.2.2.trans hb,.inl ⟨by rw [he];exact hx,rfl,by rw [he];exact hw,HX3.out.2.2.2.1.trans hk⟩⟩
   clear hx hw hk hb he
   go_wp2_with fail
   exact bodyPost_end (results_none rfl _ _ _) rfl HF.out
end Go.Proofs.YtieeaehabjjaoaaGreatDoor

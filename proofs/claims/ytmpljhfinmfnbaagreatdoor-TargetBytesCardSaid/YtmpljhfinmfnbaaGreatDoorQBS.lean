/- The proof, part 45: texts that belong together, in one. -/
import Derived.Test.YtmpljhfinmfnbaaGreatDoorQBO
import Derived.Test.YtmpljhfinmfnbaaGreatDoorQBQ
import Derived.Test.YtmpljhfinmfnbaaGreatDoorQBP
import Derived.Test.YtmpljhfinmfnbaaGreatDoorQBR
import Derived.Deep.DeepCutAuto
set_option maxRecDepth 100000
set_option maxHeartbeats 20000000
namespace Go.Proofs.YtmpljhfinmfnbaaGreatDoor
open Go.RowKit
set_option linter.unusedVariables false
set_option maxRecDepth 100000
section
variable {P:Program} {md:Region.Mode} {ops:Array Oper} {Q:Exit→Act→World→Prop} {S:World→Prop} {fuel:Nat} {listed:Array Bool} {a:Act} {w:World}
theorem dr_oneg (i:Nat) {oi:Oper} (hi:ops[i]? = some oi) (hg:Region.wanted oi (yielded ops a.tmps)=true) (hr:Region.ready md ops listed=[i])
 (h:oi.wp P a w (fun a' w'=>S w'∧wpAnyH P md ops Q S fuel (listed.setIfInBounds i true) a' w') Q):wpAnyH P md ops Q S (fuel+1) listed a w:=by
 refine wpAnyH_all hr (by simp) fun j hj=>?_
 obtain rfl:j=i:=by simpa using hj
 unfold wpOp
 simp only [hi,hg,if_true]
 exact .inl h
end
theorem grown_new {X Y:World} {o:Obj} {n c:Nat} (hg:(X.alloc o).grownBy Y (Value.slice (some ⟨X.heap.size,0,none⟩) n c).ownBlock):Below X.heap.size X Y :=
 ⟨hg.os,hg.tape,hg.output,by have:=hg.size;rw [World.size_alloc] at this;omega,fun k hk=>(hg.block k (by rw [World.size_alloc];omega) (fun e=>by
  have e2:k=X.heap.size:=by simpa [Value.ownBlock] using e
  omega)).trans (heap_alloc_old X o hk)⟩
structure Tb (w:World) (ro rp:Array Value) (X:World):Prop where
 ox:Own X w.heap.size 25 ro
 px:Own X (w.heap.size+1) 25 rp
 bel:Below w.heap.size w X
theorem Tb.below {w X Y:World} {ro rp:Array Value} (h:Tb w ro rp X) (hb:Below X.heap.size X Y):Tb w ro rp Y:=⟨h.ox.below hb,h.px.below hb,h.bel.trans (hb.mono h.bel.size)⟩
theorem bys_own {X:World} {B:Nat} {v:Value} {l:List UInt8} (h:X.ownsRow B 5 1 v l.length (Lib.byteCells l)):∃ a c,v=.slice a l.length c∧bysAt X l a∧l.length≤c∧c≤9223372036854775807:=by
 have hml:maxLen≤9223372036854775807:=by unfold maxLen;decide
 obtain ⟨a,c,rfl,hb⟩:=row_bys h
 refine ⟨a,c,rfl,hb,?_⟩
 rcases h.2 with ⟨h1,h2⟩ | ⟨g,cap,cur,h1,h2,h3,h4,h5,_⟩
 · injection h1 with e1 e2 e3
   omega
 · injection h1 with e1 e2 e3
   omega
theorem byteCells_one (l:List UInt8):∀ u∈Lib.byteCells l,u.oneCell'=true:=by
 intro u hu
 unfold Lib.byteCells at hu
 obtain ⟨x,_,rfl⟩:=List.mem_map.1 hu
 rfl
theorem bys_newsT {W:World} {l:List UInt8} {a:Option Addr} (h:bysAt W l a):(a=none∧l.length=0)∨∃ d,a=some d∧∀ j u,(Lib.byteCells l)[j]? = some u→W.cell? (d.add j)=some u:=by
 cases a with
 | none =>
   rcases h with rfl | ⟨g,q,e,_⟩
   · exact .inl ⟨rfl,rfl⟩
   · cases e
 | some d =>
   refine .inr ⟨d,rfl,fun j u hj=>?_⟩
   unfold Lib.byteCells at hj
   rw [List.getElem?_map] at hj
   obtain ⟨x,hx,rfl⟩:=Option.map_eq_some_iff.1 hj
   rcases h with rfl | ⟨g,q,e,h⟩
   · simp at hx
   · injection e with e
     subst e
     rw [addr_addD]
     exact h j x hx
theorem bytes_walk (o p:Ob) (l:List UInt8) (al:Option Addr) (cl:Nat) (hg:rgO o) (hf:fitO o) (hfw:fitW o) (hf2:fitO p) (hl:l.length≤140737488351232) (hlc:l.length≤cl) (hcl:cl≤9223372036854775807) {v u:Value} {w:World} (hv:obA w o v) (hu:obA w p u) (hb:bysAt w l al) (T:TgT w) (P:PwT w) :
 Calls Tryz.prog 3 #[v,u,.slice al l.length cl] w fun e w'=>e=.returned (.bool true)∧Below w.heap.size w w':=by
 have HTT:Hid (∀ X,Below w.heap.size w X→TgT X∧PwT X):=fun X h=>⟨T.below h,P.below h⟩
 have HBG:Hid (∀ X,Below w.heap.size w X→Calls Tryz.prog 13 #[] X fun e w'=>e=.returned (.bool true)∧Below X.heap.size X w'):=fun X h=>begins_any X (HTT.out X h).1 (HTT.out X h).2
 have HEN:Hid (∀ X,Below w.heap.size w X→Calls Tryz.prog 5 #[v] X fun e w'=>∃ a c,e=.returned (.tuple #[.slice a (encR o).length c,.int .i64 (chkO o).1])∧Below X.heap.size X w'∧bysAt w' (encR o) a):=fun X h=>(encode_any o hg hf (obA_below hv h) (HTT.out X h).1).mono fun e w' ⟨a,c,h1,h2,h3⟩=>by
  obtain ⟨a',c',e',h4,_⟩:=bys_own h3
  injection e' with e1 e2 e3
  subst e1
  exact ⟨a,c,h1,h2,h4⟩
 have HRE:Hid (∀ X,Below w.heap.size w X→Calls Tryz.prog 6 #[v] X fun e w'=>∃ a c,e=.returned (.tuple #[.slice a (encR o).length c,.int .i64 (chkO o).1])∧Below X.heap.size X w'∧bysAt w' (encR o) a):=fun X h=>(rencode_any o hg hf (obA_below hv h)).mono fun e w' ⟨a,c,h1,h2,h3⟩=>by
  obtain ⟨a',c',e',h4,_⟩:=bys_own h3
  injection e' with e1 e2 e3
  subst e1
  exact ⟨a,c,h1,h2,h4⟩
 have HEL:Hid ((encR o).length≤200000000):=enc_len o hg
 have HBS:Hid (∀ X a b c d,bysAt X (encR o) a→bysAt X (encR o) b→Calls Tryz.prog 7 #[.slice a (encR o).length c,.slice b (encR o).length d] X fun e w'=>e=.returned (.bool true)∧Below X.heap.size X w'):=fun X a b c d h1 h2=>bys_same (encR o) (by have:=HEL.out;omega) h1 h2
 obtain ⟨sp,hsp⟩:∃ sp:Bool,(sp=true↔o=p):=by
  by_cases h:o=p
  · exact ⟨true,by simp [h]⟩
  · exact ⟨false,by simp [h]⟩
 have hbb:∀ b:Bool,(b=true↔o=p)→b=sp:=fun b hb=>by
  rw [← hsp] at hb
  cases b <;> cases sp <;> simp_all
 have HTS:Hid (∀ X,Below w.heap.size w X→Calls Tryz.prog 8 #[v,u] X fun e w'=>e=.returned (.bool sp)∧Below X.heap.size X w'):=fun X h=>(tsame_any o p hf hf2 (obA_below hv h) (obA_below hu h)).mono fun e w' ⟨b,h1,h2,h3⟩=>⟨by rw [h1,hbb b h2],h3⟩
 have HRS:Hid (∀ X,Below w.heap.size w X→Calls Tryz.prog 9 #[v,u] X fun e w'=>e=.returned (.bool sp)∧Below X.heap.size X w'):=fun X h=>(rsame2_any o p hf hf2 (obA_below hv h) (obA_below hu h)).mono fun e w' ⟨b,h1,h2,h3⟩=>⟨by rw [h1,hbb b h2],h3⟩
 have HCP:Hid (∀ X,Below w.heap.size w X→Calls Tryz.prog 10 #[v] X fun e w'=>∃ v',e=.returned v'∧obA w' o v'∧Below X.heap.size X w'):=fun X h=>rcopy_any o hfw (obA_below hv h)
 have HT2:Hid (∀ X z,Below w.heap.size w X→obA X o z→Calls Tryz.prog 8 #[v,z] X fun e w'=>e=.returned (.bool true)∧Below X.heap.size X w'):=fun X z h hz=>(tsame_any o o hf hf (obA_below hv h) hz).mono fun e w' ⟨b,h1,h2,h3⟩=>⟨by rw [h1,h2.2 rfl],h3⟩
 have HDE:Hid (∀ X a c,Below w.heap.size w X→bysAt X l a→l.length≤c→c≤9223372036854775807→Calls Tryz.prog 11 #[.slice a l.length c] X fun e w'=>∃ z,e=.returned (.tuple #[z,.int .i64 (decO l).2])∧(∃ z1 z5 L,z=.agg #[z1,.int .i64 (decO l).1.sh,.int .i64 (decO l).1.lk,.int .i64 (decO l).1.bf,z5]∧DcV X.heap.size (decO l).1 z1 z5 L w')∧Below X.heap.size X w'):=fun X a c h1 h2 h3 h4=>t_Decode l h2 h3 (by omega) h4 (HTT.out X h1).1
 have HRD:Hid (∀ X a c,bysAt X l a→l.length≤c→Calls Tryz.prog 12 #[.slice a l.length c] X fun e w'=>∃ z,e=.returned (.tuple #[z,.int .i64 (decO l).2])∧(∃ z1 z5 L,z=.agg #[z1,.int .i64 (decO l).1.sh,.int .i64 (decO l).1.lk,.int .i64 (decO l).1.bf,z5]∧DcV X.heap.size (decO l).1 z1 z5 L w')∧Below X.heap.size X w'):=fun X a c h2 h3=>by
  have h:=r_Decode l h2 h3 (by omega)
  rw [decD_eq] at h
  exact h
 have HFD:Hid (fitO (decO l).1):=by
  rcases dec_one l with ⟨h1,h2,h3,h4⟩ | h
  · have hw := few_of (chk_ok h2).1
    exact ⟨by have:=hw.mem;omega,by have:=hw.cores;omega,fun c hc=>⟨by have:=hw.name c hc;omega,by have:=hw.code c hc;omega⟩⟩
  · rw [h]
    exact ⟨by simp,by simp,fun c hc=>by simp at hc⟩
 have HSD:Hid (∀ X y z,obA X (decO l).1 y→obA X (decO l).1 z→Calls Tryz.prog 9 #[y,z] X fun e w'=>e=.returned (.bool true)∧Below X.heap.size X w'):=fun X y z h1 h2=>rsame_any _ HFD.out h1 h2
 have HB2:Hid (∀ X a b c d,bysAt X l a→bysAt X l b→Calls Tryz.prog 7 #[.slice a l.length c,.slice b l.length d] X fun e w'=>e=.returned (.bool true)∧Below X.heap.size X w'):=fun X a b c d h1 h2=>bys_same l hl h1 h2
 generalize encR o=enc at HEN HRE HBS HEL
 generalize (chkO o).1=er at HEN HRE
 generalize (decO l).2=dr at HDE HRD
 generalize (decO l).1=dob at HDE HRD HSD HFD
 obtain ⟨a1,c1,a5,c5,rfl,_,_⟩:=hv
 obtain ⟨b1,d1,b5,d5,rfl,_,_⟩:=hu
 have HOV:Hid (∀ X z,obA X o z→∃ b1 d1 b5 d5,z=.agg #[.slice b1 o.mem.length d1,.int .i64 o.sh,.int .i64 o.lk,.int .i64 o.bf,.slice b5 o.cores.length d5]):=fun X u h=>by
  obtain ⟨b1,d1,b5,d5,e,_,_⟩:=h
  exact ⟨b1,d1,b5,d5,e⟩
 simp only [obV] at HEN HRE HTS HRS HCP HT2 ⊢
 obtain ⟨n1,hn1⟩:∃ n,n=o.mem.length:=⟨_,rfl⟩
 obtain ⟨n5,hn5⟩:∃ n,n=o.cores.length:=⟨_,rfl⟩
 obtain ⟨m1,hm1⟩:∃ n,n=p.mem.length:=⟨_,rfl⟩
 obtain ⟨m5,hm5⟩:∃ n,n=p.cores.length:=⟨_,rfl⟩
 obtain ⟨sh,hsh⟩:∃ n,n=o.sh:=⟨_,rfl⟩
 obtain ⟨lk,hlk⟩:∃ n,n=o.lk:=⟨_,rfl⟩
 obtain ⟨bf,hbf⟩:∃ n,n=o.bf:=⟨_,rfl⟩
 obtain ⟨ph,hph⟩:∃ n,n=p.sh:=⟨_,rfl⟩
 obtain ⟨pk,hpk⟩:∃ n,n=p.lk:=⟨_,rfl⟩
 obtain ⟨pf,hpf⟩:∃ n,n=p.bf:=⟨_,rfl⟩
 rw [← hn1,← hn5,← hsh,← hlk,← hbf] at HEN HRE HTS HRS HCP HT2 HOV ⊢
 rw [← hm1,← hm5,← hph,← hpk,← hpf] at HTS HRS ⊢
 have B0:Below w.heap.size w ((w.alloc (.cells #[.slice a1 n1 c1,.int .i64 sh,.int .i64 lk,.int .i64 bf,.slice a5 n5 c5] 25)).alloc (.cells #[.slice b1 m1 d1,.int .i64 ph,.int .i64 pk,.int .i64 pf,.slice b5 m5 d5] 25)):=((Below.refl _ w).alloc (Nat.le_refl _) _).alloc (by simp) _
 have OA:Own ((w.alloc (.cells #[.slice a1 n1 c1,.int .i64 sh,.int .i64 lk,.int .i64 bf,.slice a5 n5 c5] 25)).alloc (.cells #[.slice b1 m1 d1,.int .i64 ph,.int .i64 pk,.int .i64 pf,.slice b5 m5 d5] 25)) w.heap.size 25 #[.slice a1 n1 c1,.int .i64 sh,.int .i64 lk,.int .i64 bf,.slice a5 n5 c5]:=(Own.new w 25 #[.slice a1 n1 c1,.int .i64 sh,.int .i64 lk,.int .i64 bf,.slice a5 n5 c5]).alloc _
 have OP:Own ((w.alloc (.cells #[.slice a1 n1 c1,.int .i64 sh,.int .i64 lk,.int .i64 bf,.slice a5 n5 c5] 25)).alloc (.cells #[.slice b1 m1 d1,.int .i64 ph,.int .i64 pk,.int .i64 pf,.slice b5 m5 d5] 25)) (w.heap.size+1) 25 #[.slice b1 m1 d1,.int .i64 ph,.int .i64 pk,.int .i64 pf,.slice b5 m5 d5]:=by
  have h:=Own.new (w.alloc (.cells #[.slice a1 n1 c1,.int .i64 sh,.int .i64 lk,.int .i64 bf,.slice a5 n5 c5] 25)) 25 #[.slice b1 m1 d1,.int .i64 ph,.int .i64 pk,.int .i64 pf,.slice b5 m5 d5]
  rwa [World.size_alloc] at h
 obtain ⟨W0,hW0⟩:∃ W,W=(w.alloc (.cells #[.slice a1 n1 c1,.int .i64 sh,.int .i64 lk,.int .i64 bf,.slice a5 n5 c5] 25)).alloc (.cells #[.slice b1 m1 d1,.int .i64 ph,.int .i64 pk,.int .i64 pf,.slice b5 m5 d5] 25):=⟨_,rfl⟩
 rw [← hW0] at B0 OA OP
 have HW0:=Lib.hid hW0
 have HS0:Hid (Tb w #[.slice a1 n1 c1,.int .i64 sh,.int .i64 lk,.int .i64 bf,.slice a5 n5 c5] #[.slice b1 m1 d1,.int .i64 ph,.int .i64 pk,.int .i64 pf,.slice b5 m5 d5] W0):=⟨OA,OP,B0⟩
 have HLB:=Lib.hid hb
 have HLL:=Lib.hid (And.intro hl (And.intro hlc hcl))
 have O0:=OA
 clear hn1 hn5 hm1 hm5 hsh hlk hbf hph hpk hpf B0 OA OP hW0 T P hg hf hfw hf2 hb hl hlc hcl hsp hbb HFD
 go_enter Tryz.func3,Tryz.ntmps3
 go_upto_region 1 with fail
 rw [← HW0.out]
 clear HW0
 go_upto_region 2 with (first | (go_at_call 5;refine (HEN.out _ HS0.out.bel).mono ?_;rintro e w2 ⟨ax,cx,rfl,hb,hx⟩;have HS2:=Lib.hid (HS0.out.below hb);have HX2:=Lib.hid hx;clear hb hx) | (refine ld rowO rfl rfl rfl O0 rfl ?_))
 have O2:=HS2.out.ox
 clear O0 HS0 HEN
 go_upto_region 3 with (first | (go_at_call 6;refine (HRE.out _ HS2.out.bel).mono ?_;rintro e w3 ⟨ay,cy,rfl,hb,hy⟩;have HS3:=Lib.hid (HS2.out.below hb);have HX3:=Lib.hid (bysAt_below HX2.out hb);have HY3:=Lib.hid hy;clear hb hy) | (refine ld rowO rfl rfl rfl O2 rfl ?_))
 clear O2 HS2 HX2 HRE
 go_cut [48] (fun z wx=>z=.bool false∧Tb w #[.slice a1 n1 c1,.int .i64 sh,.int .i64 lk,.int .i64 bf,.slice a5 n5 c5] #[.slice b1 m1 d1,.int .i64 ph,.int .i64 pk,.int .i64 pf,.slice b5 m5 d5] wx)
 case first =>
  refine wp_region_held (S:=fun V=>Tb w #[.slice a1 n1 c1,.int .i64 sh,.int .i64 lk,.int .i64 bf,.slice a5 n5 c5] #[.slice b1 m1 d1,.int .i64 ph,.int .i64 pk,.int .i64 pf,.slice b5 m5 d5] V) (by kernel_rfl) ?_
  change wpAnyH _ _ _ _ _ _ _ _ w3.drew
  have HSX:Hid (Tb w #[.slice a1 n1 c1,.int .i64 sh,.int .i64 lk,.int .i64 bf,.slice a5 n5 c5] #[.slice b1 m1 d1,.int .i64 ph,.int .i64 pk,.int .i64 pf,.slice b5 m5 d5] w3.drew):=HS3.out.below (below_drewN (Below.refl _ w3) 1)
  have HXD:Hid (bysAt w3.drew enc ax):=bysAt_below HX3.out (below_drewN (Below.refl _ w3) 1)
  have HYD:Hid (bysAt w3.drew enc ay):=bysAt_below HY3.out (below_drewN (Below.refl _ w3) 1)
  obtain ⟨W4,hW4⟩:∃ W,W=w3.drew:=⟨_,rfl⟩
  rw [← hW4] at HSX HXD HYD ⊢
  clear hW4 HS3 HX3 HY3
  change wpAnyH _ _ _ _ _ _ _ { tmps:=List.toArray (_::_::_::_::_::_::_::_::_::_::_::_::_::_::_::_::_::_::_::_::_::_::_::_::_::_::_::_::_::_::_::_::_::_::_::_::_::_::_::_::_::_::_::_::_::_::_::_::_::_::_::_::_::_::_::_::_::_::_::_::_::_::_::_::_::_::_::_::_::_::_::_::_::_::_::_::_::_::[]),defers:=[] } _
  refine dr_take 0 (.slice ax enc.length cx) rfl rfl (by kernel_rfl) (by kernel_rfl) (by kernel_rfl) (fun _ _ _ h=>h) (fun _ _=>by unfold execOp;go_simp) HSX.out ?_
  change wpAnyH _ _ _ _ _ _ _ { tmps:=List.toArray (_::_::_::_::_::_::_::_::_::_::_::_::_::_::_::_::_::_::_::_::_::_::_::_::_::_::_::_::_::_::_::_::_::_::_::_::_::_::_::_::_::_::_::_::_::_::_::_::_::_::_::_::_::_::_::_::_::_::_::_::_::_::_::_::_::_::_::_::_::_::_::_::_::_::_::_::_::_::[]),defers:=[] } _
  refine dr_take 1 (.slice ay enc.length cy) rfl rfl (by kernel_rfl) (by kernel_rfl) (by kernel_rfl) (fun _ _ _ h=>h) (fun _ _=>by unfold execOp;go_simp) HSX.out ?_
  change wpAnyH _ _ _ _ _ _ _ { tmps:=List.toArray (_::_::_::_::_::_::_::_::_::_::_::_::_::_::_::_::_::_::_::_::_::_::_::_::_::_::_::_::_::_::_::_::_::_::_::_::_::_::_::_::_::_::_::_::_::_::_::_::_::_::_::_::_::_::_::_::_::_::_::_::_::_::_::_::_::_::_::_::_::_::_::_::_::_::_::_::_::_::[]),defers:=[] } _
  refine dr_one 2 rfl rfl (by kernel_rfl) ?_
  refine wp_callT (vs:=#[.slice ax enc.length cx,.slice ay enc.length cy]) rfl rfl (enters_of Tryz.func7 (by kernel_rfl) rfl) (by simp [Act.eval]) (HBS.out _ _ _ _ _ HXD.out HYD.out) ?_
  rintro e w5 ⟨rfl,hb⟩
  replace HSX:=Lib.hid (HSX.out.below hb)
  clear hb HXD HYD
  refine ⟨HSX.out,?_⟩
  change wpAnyH _ _ _ _ _ _ _ { tmps:=List.toArray (_::_::_::_::_::_::_::_::_::_::_::_::_::_::_::_::_::_::_::_::_::_::_::_::_::_::_::_::_::_::_::_::_::_::_::_::_::_::_::_::_::_::_::_::_::_::_::_::_::_::_::_::_::_::_::_::_::_::_::_::_::_::_::_::_::_::_::_::_::_::_::_::_::_::_::_::_::_::[]),defers:=[] } _
  refine dr_take 3 (.bool false) rfl rfl (by kernel_rfl) (by kernel_rfl) (by kernel_rfl) (fun _ _ _ h=>h) (fun _ _=>by unfold execOp;go_simp) HSX.out ?_
  change wpAnyH _ _ _ _ _ _ _ { tmps:=List.toArray (_::_::_::_::_::_::_::_::_::_::_::_::_::_::_::_::_::_::_::_::_::_::_::_::_::_::_::_::_::_::_::_::_::_::_::_::_::_::_::_::_::_::_::_::_::_::_::_::_::_::_::_::_::_::_::_::_::_::_::_::_::_::_::_::_::_::_::_::_::_::_::_::_::_::_::_::_::_::[]),defers:=[] } _
  refine dr_take 4 (.bool false) rfl rfl (by kernel_rfl) (by kernel_rfl) (by kernel_rfl) (fun _ _ _ h=>h) (fun _ _=>by unfold execOp;go_simp) HSX.out ?_
  change wpAnyH _ _ _ _ _ _ _ { tmps:=List.toArray (_::_::_::_::_::_::_::_::_::_::_::_::_::_::_::_::_::_::_::_::_::_::_::_::_::_::_::_::_::_::_::_::_::_::_::_::_::_::_::_::_::_::_::_::_::_::_::_::_::_::_::_::_::_::_::_::_::_::_::_::_::_::_::_::_::_::_::_::_::_::_::_::_::_::_::_::_::_::[]),defers:=[] } _
  refine dr_takeg 5 (.int .i64 er) rfl (by kernel_rfl) (by kernel_rfl) (by kernel_rfl) (by kernel_rfl) (fun _ _ _ h=>h) (fun _ _=>by unfold execOp;go_simp) HSX.out ?_
  change wpAnyH _ _ _ _ _ _ _ { tmps:=List.toArray (_::_::_::_::_::_::_::_::_::_::_::_::_::_::_::_::_::_::_::_::_::_::_::_::_::_::_::_::_::_::_::_::_::_::_::_::_::_::_::_::_::_::_::_::_::_::_::_::_::_::_::_::_::_::_::_::_::_::_::_::_::_::_::_::_::_::_::_::_::_::_::_::_::_::_::_::_::_::[]),defers:=[] } _
  refine dr_takeg 6 (.int .i64 er) rfl (by kernel_rfl) (by kernel_rfl) (by kernel_rfl) (by kernel_rfl) (fun _ _ _ h=>h) (fun _ _=>by unfold execOp;go_simp) HSX.out ?_
  change wpAnyH _ _ _ _ _ _ _ { tmps:=List.toArray (_::_::_::_::_::_::_::_::_::_::_::_::_::_::_::_::_::_::_::_::_::_::_::_::_::_::_::_::_::_::_::_::_::_::_::_::_::_::_::_::_::_::_::_::_::_::_::_::_::_::_::_::_::_::_::_::_::_::_::_::_::_::_::_::_::_::_::_::_::_::_::_::_::_::_::_::_::_::[]),defers:=[] } _
  refine dr_takeg 7 (.bool false) rfl (by kernel_rfl) (by kernel_rfl) (by kernel_rfl) (by kernel_rfl) (fun _ _ _ h=>h) (fun _ _=>by unfold execOp;go_simp <;> simp) HSX.out ?_
  change wpAnyH _ _ _ _ _ _ _ { tmps:=List.toArray (_::_::_::_::_::_::_::_::_::_::_::_::_::_::_::_::_::_::_::_::_::_::_::_::_::_::_::_::_::_::_::_::_::_::_::_::_::_::_::_::_::_::_::_::_::_::_::_::_::_::_::_::_::_::_::_::_::_::_::_::_::_::_::_::_::_::_::_::_::_::_::_::_::_::_::_::_::_::[]),defers:=[] } _
  refine dr_take 8 (.bool false) rfl rfl (by kernel_rfl) (by kernel_rfl) (by kernel_rfl) (fun _ _ _ h=>h) (fun _ _=>by unfold execOp;go_simp) HSX.out ?_
  change wpAnyH _ _ _ _ _ _ _ { tmps:=List.toArray (_::_::_::_::_::_::_::_::_::_::_::_::_::_::_::_::_::_::_::_::_::_::_::_::_::_::_::_::_::_::_::_::_::_::_::_::_::_::_::_::_::_::_::_::_::_::_::_::_::_::_::_::_::_::_::_::_::_::_::_::_::_::_::_::_::_::_::_::_::_::_::_::_::_::_::_::_::_::[]),defers:=[] } _
  refine dr_take 9 (.bool false) rfl rfl (by kernel_rfl) (by kernel_rfl) (by kernel_rfl) (fun _ _ _ h=>h) (fun _ _=>by unfold execOp;go_simp) HSX.out ?_
  change wpAnyH _ _ _ _ _ _ _ { tmps:=List.toArray (_::_::_::_::_::_::_::_::_::_::_::_::_::_::_::_::_::_::_::_::_::_::_::_::_::_::_::_::_::_::_::_::_::_::_::_::_::_::_::_::_::_::_::_::_::_::_::_::_::_::_::_::_::_::_::_::_::_::_::_::_::_::_::_::_::_::_::_::_::_::_::_::_::_::_::_::_::_::[]),defers:=[] } _
  refine dr_takeg 10 (.agg #[.slice a1 n1 c1,.int .i64 sh,.int .i64 lk,.int .i64 bf,.slice a5 n5 c5]) rfl (by kernel_rfl) (by kernel_rfl) (by kernel_rfl) (by kernel_rfl) (fun _ _ _ h=>h) (fun _ h=>run_ldT rowO rfl rfl h.ox rfl) HSX.out ?_
  change wpAnyH _ _ _ _ _ _ _ { tmps:=List.toArray (_::_::_::_::_::_::_::_::_::_::_::_::_::_::_::_::_::_::_::_::_::_::_::_::_::_::_::_::_::_::_::_::_::_::_::_::_::_::_::_::_::_::_::_::_::_::_::_::_::_::_::_::_::_::_::_::_::_::_::_::_::_::_::_::_::_::_::_::_::_::_::_::_::_::_::_::_::_::[]),defers:=[] } _
  refine dr_takeg 11 (.agg #[.slice b1 m1 d1,.int .i64 ph,.int .i64 pk,.int .i64 pf,.slice b5 m5 d5]) rfl (by kernel_rfl) (by kernel_rfl) (by kernel_rfl) (by kernel_rfl) (fun _ _ _ h=>h) (fun _ h=>run_ldT rowO rfl rfl h.px rfl) HSX.out ?_
  change wpAnyH _ _ _ _ _ _ _ { tmps:=List.toArray (_::_::_::_::_::_::_::_::_::_::_::_::_::_::_::_::_::_::_::_::_::_::_::_::_::_::_::_::_::_::_::_::_::_::_::_::_::_::_::_::_::_::_::_::_::_::_::_::_::_::_::_::_::_::_::_::_::_::_::_::_::_::_::_::_::_::_::_::_::_::_::_::_::_::_::_::_::_::[]),defers:=[] } _
  refine dr_takeg 13 (.agg #[.slice a1 n1 c1,.int .i64 sh,.int .i64 lk,.int .i64 bf,.slice a5 n5 c5]) rfl (by kernel_rfl) (by kernel_rfl) (by kernel_rfl) (by kernel_rfl) (fun _ _ _ h=>h) (fun _ h=>run_ldT rowO rfl rfl h.ox rfl) HSX.out ?_
  change wpAnyH _ _ _ _ _ _ _ { tmps:=List.toArray (_::_::_::_::_::_::_::_::_::_::_::_::_::_::_::_::_::_::_::_::_::_::_::_::_::_::_::_::_::_::_::_::_::_::_::_::_::_::_::_::_::_::_::_::_::_::_::_::_::_::_::_::_::_::_::_::_::_::_::_::_::_::_::_::_::_::_::_::_::_::_::_::_::_::_::_::_::_::[]),defers:=[] } _
  refine dr_takeg 14 (.agg #[.slice b1 m1 d1,.int .i64 ph,.int .i64 pk,.int .i64 pf,.slice b5 m5 d5]) rfl (by kernel_rfl) (by kernel_rfl) (by kernel_rfl) (by kernel_rfl) (fun _ _ _ h=>h) (fun _ h=>run_ldT rowO rfl rfl h.px rfl) HSX.out ?_
  change wpAnyH _ _ _ _ _ _ _ { tmps:=List.toArray (_::_::_::_::_::_::_::_::_::_::_::_::_::_::_::_::_::_::_::_::_::_::_::_::_::_::_::_::_::_::_::_::_::_::_::_::_::_::_::_::_::_::_::_::_::_::_::_::_::_::_::_::_::_::_::_::_::_::_::_::_::_::_::_::_::_::_::_::_::_::_::_::_::_::_::_::_::_::[]),defers:=[] } _
  refine dr_oneg 12 rfl (by kernel_rfl) (by kernel_rfl) ?_
  refine wp_callT (vs:=#[.agg #[.slice a1 n1 c1,.int .i64 sh,.int .i64 lk,.int .i64 bf,.slice a5 n5 c5],.agg #[.slice b1 m1 d1,.int .i64 ph,.int .i64 pk,.int .i64 pf,.slice b5 m5 d5]]) rfl rfl (enters_of Tryz.func8 (by kernel_rfl) rfl) (by simp [Act.eval]) (HTS.out _ HSX.out.bel) ?_
  rintro e w6 ⟨rfl,hb⟩
  replace HSX:=Lib.hid (HSX.out.below hb)
  clear hb
  refine ⟨HSX.out,?_⟩
  change wpAnyH _ _ _ _ _ _ _ { tmps:=List.toArray (_::_::_::_::_::_::_::_::_::_::_::_::_::_::_::_::_::_::_::_::_::_::_::_::_::_::_::_::_::_::_::_::_::_::_::_::_::_::_::_::_::_::_::_::_::_::_::_::_::_::_::_::_::_::_::_::_::_::_::_::_::_::_::_::_::_::_::_::_::_::_::_::_::_::_::_::_::_::[]),defers:=[] } _
  refine dr_oneg 15 rfl (by kernel_rfl) (by kernel_rfl) ?_
  refine wp_callT (vs:=#[.agg #[.slice a1 n1 c1,.int .i64 sh,.int .i64 lk,.int .i64 bf,.slice a5 n5 c5],.agg #[.slice b1 m1 d1,.int .i64 ph,.int .i64 pk,.int .i64 pf,.slice b5 m5 d5]]) rfl rfl (enters_of Tryz.func9 (by kernel_rfl) rfl) (by simp [Act.eval]) (HRS.out _ HSX.out.bel) ?_
  rintro e w7 ⟨rfl,hb⟩
  replace HSX:=Lib.hid (HSX.out.below hb)
  clear hb
  refine ⟨HSX.out,?_⟩
  change wpAnyH _ _ _ _ _ _ _ { tmps:=List.toArray (_::_::_::_::_::_::_::_::_::_::_::_::_::_::_::_::_::_::_::_::_::_::_::_::_::_::_::_::_::_::_::_::_::_::_::_::_::_::_::_::_::_::_::_::_::_::_::_::_::_::_::_::_::_::_::_::_::_::_::_::_::_::_::_::_::_::_::_::_::_::_::_::_::_::_::_::_::_::[]),defers:=[] } _
  refine dr_takeg 16 (.bool false) rfl (by kernel_rfl) (by kernel_rfl) (by kernel_rfl) (by kernel_rfl) (fun _ _ _ h=>h) (fun _ _=>by unfold execOp;go_simp <;> simp) HSX.out ?_
  change wpAnyH _ _ _ _ _ _ _ { tmps:=List.toArray (_::_::_::_::_::_::_::_::_::_::_::_::_::_::_::_::_::_::_::_::_::_::_::_::_::_::_::_::_::_::_::_::_::_::_::_::_::_::_::_::_::_::_::_::_::_::_::_::_::_::_::_::_::_::_::_::_::_::_::_::_::_::_::_::_::_::_::_::_::_::_::_::_::_::_::_::_::_::[]),defers:=[] } _
  refine dr_take 17 (.bool false) rfl rfl (by kernel_rfl) (by kernel_rfl) (by kernel_rfl) (fun _ _ _ h=>h) (fun _ _=>by unfold execOp;go_simp) HSX.out ?_
  change wpAnyH _ _ _ _ _ _ _ { tmps:=List.toArray (_::_::_::_::_::_::_::_::_::_::_::_::_::_::_::_::_::_::_::_::_::_::_::_::_::_::_::_::_::_::_::_::_::_::_::_::_::_::_::_::_::_::_::_::_::_::_::_::_::_::_::_::_::_::_::_::_::_::_::_::_::_::_::_::_::_::_::_::_::_::_::_::_::_::_::_::_::_::[]),defers:=[] } _
  refine dr_take 18 (.bool false) rfl rfl (by kernel_rfl) (by kernel_rfl) (by kernel_rfl) (fun _ _ _ h=>h) (fun _ _=>by unfold execOp;go_simp) HSX.out ?_
  change wpAnyH _ _ _ _ _ _ _ { tmps:=List.toArray (_::_::_::_::_::_::_::_::_::_::_::_::_::_::_::_::_::_::_::_::_::_::_::_::_::_::_::_::_::_::_::_::_::_::_::_::_::_::_::_::_::_::_::_::_::_::_::_::_::_::_::_::_::_::_::_::_::_::_::_::_::_::_::_::_::_::_::_::_::_::_::_::_::_::_::_::_::_::[]),defers:=[] } _
  refine dr_takeg 19 (.agg #[.slice a1 n1 c1,.int .i64 sh,.int .i64 lk,.int .i64 bf,.slice a5 n5 c5]) rfl (by kernel_rfl) (by kernel_rfl) (by kernel_rfl) (by kernel_rfl) (fun _ _ _ h=>h) (fun _ h=>run_ldT rowO rfl rfl h.ox rfl) HSX.out ?_
  change wpAnyH _ _ _ _ _ _ _ { tmps:=List.toArray (_::_::_::_::_::_::_::_::_::_::_::_::_::_::_::_::_::_::_::_::_::_::_::_::_::_::_::_::_::_::_::_::_::_::_::_::_::_::_::_::_::_::_::_::_::_::_::_::_::_::_::_::_::_::_::_::_::_::_::_::_::_::_::_::_::_::_::_::_::_::_::_::_::_::_::_::_::_::[]),defers:=[] } _
  refine dr_takeg 20 (.agg #[.slice a1 n1 c1,.int .i64 sh,.int .i64 lk,.int .i64 bf,.slice a5 n5 c5]) rfl (by kernel_rfl) (by kernel_rfl) (by kernel_rfl) (by kernel_rfl) (fun _ _ _ h=>h) (fun _ h=>run_ldT rowO rfl rfl h.ox rfl) HSX.out ?_
  change wpAnyH _ _ _ _ _ _ _ { tmps:=List.toArray (_::_::_::_::_::_::_::_::_::_::_::_::_::_::_::_::_::_::_::_::_::_::_::_::_::_::_::_::_::_::_::_::_::_::_::_::_::_::_::_::_::_::_::_::_::_::_::_::_::_::_::_::_::_::_::_::_::_::_::_::_::_::_::_::_::_::_::_::_::_::_::_::_::_::_::_::_::_::[]),defers:=[] } _
  refine dr_oneg 21 rfl (by kernel_rfl) (by kernel_rfl) ?_
  refine wp_callT (vs:=#[.agg #[.slice a1 n1 c1,.int .i64 sh,.int .i64 lk,.int .i64 bf,.slice a5 n5 c5]]) rfl rfl (enters_of Tryz.func10 (by kernel_rfl) rfl) (by simp [Act.eval]) (HCP.out _ HSX.out.bel) ?_
  rintro e w8 ⟨z,rfl,hz,hb⟩
  obtain ⟨f1,k1,f5,k5,rfl⟩:=HOV.out _ _ hz
  replace HSX:=Lib.hid (HSX.out.below hb)
  have HZZ:=Lib.hid hz
  clear hb hz
  refine ⟨HSX.out,?_⟩
  change wpAnyH _ _ _ _ _ _ _ { tmps:=List.toArray (_::_::_::_::_::_::_::_::_::_::_::_::_::_::_::_::_::_::_::_::_::_::_::_::_::_::_::_::_::_::_::_::_::_::_::_::_::_::_::_::_::_::_::_::_::_::_::_::_::_::_::_::_::_::_::_::_::_::_::_::_::_::_::_::_::_::_::_::_::_::_::_::_::_::_::_::_::_::[]),defers:=[] } _
  refine dr_oneg 22 rfl (by kernel_rfl) (by kernel_rfl) ?_
  refine wp_callT (vs:=#[.agg #[.slice a1 n1 c1,.int .i64 sh,.int .i64 lk,.int .i64 bf,.slice a5 n5 c5],.agg #[.slice f1 n1 k1,.int .i64 sh,.int .i64 lk,.int .i64 bf,.slice f5 n5 k5]]) rfl rfl (enters_of Tryz.func8 (by kernel_rfl) rfl) (by simp [Act.eval]) (HT2.out _ _ HSX.out.bel HZZ.out) ?_
  rintro e w9 ⟨rfl,hb⟩
  replace HSX:=Lib.hid (HSX.out.below hb)
  clear hb HZZ
  refine ⟨HSX.out,?_⟩
  change wpAnyH _ _ _ _ _ _ _ { tmps:=List.toArray (_::_::_::_::_::_::_::_::_::_::_::_::_::_::_::_::_::_::_::_::_::_::_::_::_::_::_::_::_::_::_::_::_::_::_::_::_::_::_::_::_::_::_::_::_::_::_::_::_::_::_::_::_::_::_::_::_::_::_::_::_::_::_::_::_::_::_::_::_::_::_::_::_::_::_::_::_::_::[]),defers:=[] } _
  refine dr_takeg 23 (.bool false) rfl (by kernel_rfl) (by kernel_rfl) (by kernel_rfl) (by kernel_rfl) (fun _ _ _ h=>h) (fun _ _=>by unfold execOp;go_simp) HSX.out ?_
  change wpAnyH _ _ _ _ _ _ _ { tmps:=List.toArray (_::_::_::_::_::_::_::_::_::_::_::_::_::_::_::_::_::_::_::_::_::_::_::_::_::_::_::_::_::_::_::_::_::_::_::_::_::_::_::_::_::_::_::_::_::_::_::_::_::_::_::_::_::_::_::_::_::_::_::_::_::_::_::_::_::_::_::_::_::_::_::_::_::_::_::_::_::_::[]),defers:=[] } _
  refine dr_take 24 (.bool false) rfl rfl (by kernel_rfl) (by kernel_rfl) (by kernel_rfl) (fun _ _ _ h=>h) (fun _ _=>by unfold execOp;go_simp) HSX.out ?_
  change wpAnyH _ _ _ _ _ _ _ { tmps:=List.toArray (_::_::_::_::_::_::_::_::_::_::_::_::_::_::_::_::_::_::_::_::_::_::_::_::_::_::_::_::_::_::_::_::_::_::_::_::_::_::_::_::_::_::_::_::_::_::_::_::_::_::_::_::_::_::_::_::_::_::_::_::_::_::_::_::_::_::_::_::_::_::_::_::_::_::_::_::_::_::[]),defers:=[] } _
  refine wpAnyH_done (by kernel_rfl) ?_ _
  go_wp2_with fail
  go_meet
  case rel=>exact ⟨rfl,HSX.out⟩
 case rest =>
  obtain ⟨rfl,hs⟩:=hcut
  have HS4:=Lib.hid hs
  clear hs HS3 HX3 HY3 HBS HTS HRS HCP HT2 HOV HEL
  obtain ⟨i0,hi,hz0,hz1,hz2⟩:=info_parts infoU8'
  obtain ⟨hl,hlc,hcl⟩:=HLL.out
  have HLE:Hid (∀ X,Below w.heap.size w X→bysAt X l al):=fun X h=>bysAt_below HLB.out h
  have hown:(wc.alloc (.cells #[] 5)).ownsRow w.heap.size 5 1 (.slice (some ⟨wc.heap.size,0,none⟩) 0 0) 0 []:=World.ownsRow_lit (base:=w.heap.size) (e:=5) (size:=1) wc #[] 0 HS4.out.bel.size (Nat.zero_le _) rfl
  have HOW:=Lib.hid hown
  have alc:=(Below.refl _ wc).alloc (Nat.le_refl _) (.cells #[] 5)
  have HS5:=Lib.hid (HS4.out.below alc)
  have hnw:=bys_newsT (bysAt_below HLB.out HS5.out.bel)
  have HNW:=Lib.hid hnw
  have hbs:w.heap.size≤(wc.alloc (.cells #[] 5)).heap.size:=HS5.out.bel.size
  clear hown alc hnw
  go_upto_region 6 with (first | fail | (at_builtin;refine wpList_append_list rfl _ _ 26 rfl w.heap.size 5 i0 _ 1 1 Tryz.underlying26 hi hz0 hz1 hz2 rfl (by decide) (.slice (some ⟨wc.heap.size,0,none⟩) 0 0) 0 [] rfl ?_ al l.length cl (Lib.byteCells l) rfl ?_ ?_ (byteCells_one l) (by simp only [maxLen];omega) (by omega) hbs ?_;(· exact HOW.out);(· simp [Lib.byteCells]);(· exact HNW.out);intro v' w6 hr6 hg6;rw [Nat.zero_add,List.nil_append] at hr6;obtain ⟨ag,cg,rfl,hby6,hcg1,hcg2⟩:=bys_own hr6;have HR6:=Lib.hid hr6;have HG6:=Lib.hid hg6;have HBY6:=Lib.hid hby6;have HCG:=Lib.hid (And.intro hcg1 hcg2);clear hr6 hg6 hby6 hcg1 hcg2))
  have HS6:=Lib.hid (HS4.out.below (grown_new HG6.out))
  clear HS4 HS5 HOW HNW hbs HR6 HG6 hi hz0 hz1 hz2
  go_upto_region 7 with (first | (go_at_call 11;refine (HDE.out _ _ _ HS6.out.bel HBY6.out HCG.out.1 HCG.out.2).mono ?_;rintro e w7 ⟨z,rfl,⟨z1,z5,LL,rfl,hv7⟩,hb⟩;have hz:=hv7;obtain ⟨e1,k1,rfl⟩:=row_slice hz.mem;obtain ⟨e5,k5,rfl⟩:=row_slice hz.cors;clear hz;have HV7:=Lib.hid hv7.obA;have HS7:=Lib.hid (HS6.out.below hb);have HBY7:=Lib.hid (bysAt_below HBY6.out hb);clear hv7 hb;have O7:=Own.new w7 25 #[.slice none 0 0,.int .i64 0,.int .i64 0,.int .i64 0,.slice none 0 0]) | (refine st rowO rfl rfl O7 rfl rfl (by rfl) (by rfl) (by kernel_rfl) ?_))
  have al7:=Below.of_row ((Below.refl _ w7).alloc (Nat.le_refl _) (.cells #[.slice none 0 0,.int .i64 0,.int .i64 0,.int .i64 0,.slice none 0 0] 25)) (Nat.le_refl _) #[.slice e1 dob.mem.length k1,.int .i64 dob.sh,.int .i64 dob.lk,.int .i64 dob.bf,.slice e5 LL.length k5]
  have HV8:=Lib.hid (obA_below HV7.out al7)
  have HS8:=Lib.hid (HS7.out.below al7)
  have HBY8:=Lib.hid (bysAt_below HBY7.out al7)
  have HO8:=Lib.hid (O7.row #[.slice e1 dob.mem.length k1,.int .i64 dob.sh,.int .i64 dob.lk,.int .i64 dob.bf,.slice e5 LL.length k5])
  clear al7 O7 HS7 HBY7 HV7 HS6 HBY6 HDE
  generalize (w7.alloc (.cells #[.slice none 0 0,.int .i64 0,.int .i64 0,.int .i64 0,.slice none 0 0] 25)).setRow w7.heap.size #[.slice e1 dob.mem.length k1,.int .i64 dob.sh,.int .i64 dob.lk,.int .i64 dob.bf,.slice e5 LL.length k5]=w8 at HV8 HS8 HBY8 HO8 ⊢
  generalize w7.heap.size=gx at HO8 ⊢
  go_upto_region 8 with (first | (go_at_call 12;refine (HRD.out _ _ _ (HLE.out _ HS8.out.bel) hlc).mono ?_;rintro e w9 ⟨z,rfl,⟨z1,z5,LL2,rfl,hv9⟩,hb⟩;have hz:=hv9;obtain ⟨f1,q1,rfl⟩:=row_slice hz.mem;obtain ⟨f5,q5,rfl⟩:=row_slice hz.cors;clear hz;have HV9:=Lib.hid hv9.obA;have HVA:=Lib.hid (obA_below HV8.out hb);have HS9:=Lib.hid (HS8.out.below hb);have HBY9:=Lib.hid (bysAt_below HBY8.out hb);have HO9:=Lib.hid (HO8.out.below hb);clear hv9 hb;have O9:=Own.new w9 25 #[.slice none 0 0,.int .i64 0,.int .i64 0,.int .i64 0,.slice none 0 0]) | (refine st rowO rfl rfl O9 rfl rfl (by rfl) (by rfl) (by kernel_rfl) ?_))
  have al9:=Below.of_row ((Below.refl _ w9).alloc (Nat.le_refl _) (.cells #[.slice none 0 0,.int .i64 0,.int .i64 0,.int .i64 0,.slice none 0 0] 25)) (Nat.le_refl _) #[.slice f1 dob.mem.length q1,.int .i64 dob.sh,.int .i64 dob.lk,.int .i64 dob.bf,.slice f5 LL2.length q5]
  have HVB:=Lib.hid (obA_below HV9.out al9)
  have HVC:=Lib.hid (obA_below HVA.out al9)
  have HSB:=Lib.hid (HS9.out.below al9)
  have HBYB:=Lib.hid (bysAt_below HBY9.out al9)
  have OC:=HO9.out.below al9
  have OD:=O9.row #[.slice f1 dob.mem.length q1,.int .i64 dob.sh,.int .i64 dob.lk,.int .i64 dob.bf,.slice f5 LL2.length q5]
  clear al9 O9 HO9 HO8 HS9 HS8 HBY9 HBY8 HV9 HVA HV8 HRD
  generalize (w9.alloc (.cells #[.slice none 0 0,.int .i64 0,.int .i64 0,.int .i64 0,.slice none 0 0] 25)).setRow w9.heap.size #[.slice f1 dob.mem.length q1,.int .i64 dob.sh,.int .i64 dob.lk,.int .i64 dob.bf,.slice f5 LL2.length q5]=wB at HVB HVC HSB HBYB OC OD ⊢
  generalize w9.heap.size=gy at OD ⊢
  have e1x:(dr==dr)=true:=by simp
  go_wp2_with (first | (refine ld rowO rfl rfl rfl OC rfl ?_) | (refine ld rowO rfl rfl rfl OD rfl ?_) | (go_at_call 9;refine (HSD.out _ _ _ HVC.out HVB.out).mono ?_;rintro e wC ⟨rfl,hb⟩;have HSC:=Lib.hid (HSB.out.below hb);have HBYC:=Lib.hid (bysAt_below HBYB.out hb);clear hb) | (go_at_call 7;refine (HB2.out _ _ _ _ _ HBYC.out (HLE.out _ HSC.out.bel)).mono ?_;rintro e wD ⟨rfl,hb⟩;have HSDD:=Lib.hid (HSC.out.below hb);clear hb) | (go_at_call 13;refine (HBG.out _ HSDD.out.bel).mono ?_;rintro e wE ⟨rfl,hb⟩;have HSE:=Lib.hid (HSDD.out.below hb);clear hb))
  go_ret
  exact ⟨rfl,HSE.out.bel⟩
end Go.Proofs.YtmpljhfinmfnbaaGreatDoor

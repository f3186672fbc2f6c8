/- The proof, part 24: texts that belong together, in one. -/
import Derived.Test.YtimccjlhhjjcpaaGreatDoorVAE
import Derived.Test.YtimccjlhhjjcpaaGreatDoorVAW
import Derived.Test.YtimccjlhhjjcpaaGreatDoorVAA
import Derived.Test.YtimccjlhhjjcpaaGreatDoorVAR
import Derived.StillTailTactics
set_option maxRecDepth 100000
set_option maxHeartbeats 20000000
namespace Go.Proofs.YtimccjlhhjjcpaaGreatDoor
open Go.RowKit
set_option linter.unusedVariables false
theorem r_one (o:Int) (w:World):Calls Tryz.prog 139 #[.int .u8 o] w fun e w'=>e=.returned (.bool (oneB o))∧w=w':=by
 by_cases h17:o=17
 · subst h17
   go_enter Tryz.func139,Tryz.ntmps139
   go_wp2_with fail
   go_ret
   exact ⟨rfl,rfl⟩
 · have q1 := int_f h17
   by_cases h18:o=18
   · subst h18
     go_enter Tryz.func139,Tryz.ntmps139
     go_wp2_with fail
     go_ret
     exact ⟨rfl,rfl⟩
   · have q2 := int_f h18
     have hr:oneB o=false:=by unfold oneB;rw [q1,q2];rfl
     rw [hr]
     go_enter Tryz.func139,Tryz.ntmps139
     go_wp2_with fail
     go_ret
     exact ⟨rfl,rfl⟩
theorem twoB_of (o:Int) (h0:0≤o):twoB o=(decide (1≤o)&&decide (o≤16)):=by
 by_cases h:o<19
 · have : ∀ i : Nat, i < 19 → twoB (i : Int) = (decide (1 ≤ (i : Int)) && decide ((i : Int) ≤ 16)) := by decide
   have:=this o.toNat (by omega)
   rwa [show ((o.toNat:Nat):Int)=o by omega] at this
 · have hl : levelOf o = 0 := by
    unfold levelOf
    split
    · rfl
    · omega
   unfold twoB
   rw [hl,decide_eq_false (p:=o≤16) (by omega),Bool.and_false];rfl
theorem r_two (o:Int) (h0:0≤o) (w:World):Calls Tryz.prog 140 #[.int .u8 o] w fun e w'=>e=.returned (.bool (twoB o))∧w=w':=by
 rw [twoB_of o h0]
 by_cases h1:1≤o
 · by_cases h2 : o ≤ 16
   · rw [decide_eq_true h1, decide_eq_true h2]
     go_enter Tryz.func140,Tryz.ntmps140
     go_wp2
     go_ret
     exact ⟨rfl,rfl⟩
   · have h3 : 16 < o := by omega
     rw [decide_eq_true h1,decide_eq_false h2]
     go_enter Tryz.func140,Tryz.ntmps140
     go_wp2
     go_ret
     first
      | exact ⟨rfl,rfl⟩
      | exact ⟨ret_bool (decide_eq_false h2),rfl⟩
 · have h3 : o < 1 := by omega
   rw [decide_eq_false h1]
   clear h1
   go_enter Tryz.func140,Tryz.ntmps140
   go_wp2
   go_ret
   exact ⟨rfl,rfl⟩
def wrB (o:Int) (x:Ex) (b:Bool):Bool:=bif b then wrR o x else wrL o x
theorem r_inner (o:Int) (x:Ex) (b:Bool) (h0:0≤o) (hk0:0≤x.op) (a:Option Addr) (c:Nat) (m:Nat) (w:World):Calls Tryz.prog 141 #[.int .u8 o,.agg #[.int .u8 x.kind,.int .u8 x.op,.int .i64 x.wd,.string x.name,.slice a m c,.int .i64 x.pos],.bool b] w fun e w'=>e=.returned (.bool (wrB o x b))∧Below w.heap.size w w':=by
 have HV:Hid (∀ (n:Int),0≤n→∀ W,Calls Tryz.prog 155 #[.int .u8 n] W fun e w'=>e=.returned (.int .i64 (levelOf n))∧Below W.heap.size W w'):=fun n hn W=>rlevel_any n hn W
 obtain ⟨k,p,wd,nm,ks,ps⟩:=x
 change 0≤p at hk0
 change Calls _ _ #[_,.agg #[.int .u8 k,.int .u8 p,.int .i64 wd,.string nm,.slice a m c,.int .i64 ps],_] w _
 have HB:=Lib.hid ((Below.refl w.heap.size w).alloc (Nat.le_refl _) (.cells #[.int .u8 k,.int .u8 p,.int .i64 wd,.string nm,.slice a m c,.int .i64 ps] 70))
 by_cases hk:k=4
 · subst hk
   have HR:Hid (wrB o (.mk 4 p wd nm ks ps) b=(decide (levelOf p<levelOf o) || (b&&decide (levelOf p=levelOf o)))):=by
    show _=_
    unfold wrB wrR wrL
    show (bif b then ((4:Int)==4&&decide (levelOf p≤levelOf o)) else ((4:Int)==4&&decide (levelOf p<levelOf o)))=_
    cases b
    · simp
    · simp only [cond_true, Bool.true_and, beq_self_eq_true]
      by_cases h1:levelOf p<levelOf o
      · rw [decide_eq_true h1,decide_eq_true (p:=levelOf p≤levelOf o) (by omega)];rfl
      · rw [decide_eq_false h1, Bool.false_or]
        by_cases h2:levelOf p=levelOf o
        · rw [decide_eq_true h2,decide_eq_true (p:=levelOf p≤levelOf o) (by omega)]
        · rw [decide_eq_false h2,decide_eq_false (p:=levelOf p≤levelOf o) (by omega)]
   rw [HR.out]
   have HP:=HV.out p hk0
   have HO:=HV.out o h0
   obtain ⟨la,hla⟩:∃ z,z=levelOf p:=⟨_,rfl⟩
   obtain ⟨lb,hlb⟩:∃ z,z=levelOf o:=⟨_,rfl⟩
   rw [← hla] at HP ⊢
   rw [← hlb] at HO ⊢
   have HP:=Lib.hid HP
   have HO:=Lib.hid HO
   clear HR HV hla hlb hk0 h0
   by_cases q1:la<lb
   · have q2 : decide (la < lb) = true := decide_eq_true q1
     rw [q2]
     go_enter Tryz.func141,Tryz.ntmps141
     go_wp2_with (first
      | (go_at_call_of 155 (Value.int .u8 p);refine (HP.out _).mono ?_;rintro e w1 ⟨rfl,hb1⟩;have HB1:=Lib.hid (HB.out.trans (hb1.mono HB.out.size));clear hb1)
      | (go_at_call_of 155 (Value.int .u8 o);refine (HO.out _).mono ?_;rintro e w2 ⟨rfl,hb2⟩;have HB2:=Lib.hid (HB1.out.trans (hb2.mono HB1.out.size));clear hb2))
     go_ret
     exact ⟨rfl,HB2.out⟩
   · have q2 : decide (la < lb) = false := decide_eq_false q1
     rw [q2,Bool.false_or]
     cases b
     · go_enter Tryz.func141, Tryz.ntmps141
       go_wp2_with (first
        | (go_at_call_of 155 (Value.int .u8 p);refine (HP.out _).mono ?_;rintro e w1 ⟨rfl,hb1⟩;have HB1:=Lib.hid (HB.out.trans (hb1.mono HB.out.size));clear hb1)
        | (go_at_call_of 155 (Value.int .u8 o);refine (HO.out _).mono ?_;rintro e w2 ⟨rfl,hb2⟩;have HB2:=Lib.hid (HB1.out.trans (hb2.mono HB1.out.size));clear hb2))
       go_ret
       exact ⟨rfl,HB2.out⟩
     · have q3 : (la == lb) = decide (la = lb) := by
        by_cases h:la=lb
        · rw [decide_eq_true h];exact int_t h
        · rw [decide_eq_false h];exact int_f h
       obtain ⟨z,hz⟩:∃ z,z=decide (la=lb):=⟨_,rfl⟩
       rw [← hz] at q3 ⊢
       clear hz q1
       go_enter Tryz.func141,Tryz.ntmps141
       go_wp2_with (first
        | (go_at_call_of 155 (Value.int .u8 p);refine (HP.out _).mono ?_;rintro e w1 ⟨rfl,hb1⟩;have HB1:=Lib.hid (HB.out.trans (hb1.mono HB.out.size));clear hb1)
        | (go_at_call_of 155 (Value.int .u8 o);refine (HO.out _).mono ?_;rintro e w2 ⟨rfl,hb2⟩;have HB2:=Lib.hid (HB1.out.trans (hb2.mono HB1.out.size));clear hb2))
       go_ret
       refine ⟨ret_bool ?_,HB2.out⟩
       simp [*]
 · have q1 : (k != 4) = true := by simpa using hk
   have HR:Hid (wrB o (.mk k p wd nm ks ps) b=false):=by
    show _=_
    unfold wrB wrR wrL
    show (bif b then (k==4&&decide (levelOf p≤levelOf o)) else (k==4&&decide (levelOf p<levelOf o)))=_
    rw [int_f hk];cases b <;> rfl
   rw [HR.out]
   clear HR HV hk
   go_enter Tryz.func141,Tryz.ntmps141
   go_wp2_with fail
   go_ret
   exact ⟨rfl,HB.out⟩
theorem nm_full {n:ByteArray} (h:n≠⟨#[]⟩):(n.data.toList==[])=false:=by
 refine beq_eq_false_iff_ne.2 fun e=>h ?_
 cases n with
 | mk d=>simp at e;rw [e]
theorem bt_f {n:ByteArray} (h:n≠⟨#[]⟩):(n.toList==([]:List UInt8))=false:=by
 rw [Lib.toList_data];exact nm_full h
theorem rE_1 {o wd:Int} {n:ByteArray} {ks:List Ex} {ps d:Int} (hd:d≤64):rE (.mk 1 o wd n ks ps) d=(decide (0≤wd)&&(o==0&&(n.data.toList==[]&&ks.isEmpty))):=by
 have h1:wdB 1 wd=decide (0≤wd):=by
  unfold wdB
  by_cases h:0≤wd
  · rw [decide_eq_true h];rfl
  · rw [decide_eq_false h,int_f (show wd≠0 by omega)];rfl
 simp only [rE,decide_eq_true hd,h1]
 show (true&&(decide (0≤wd)&&((n.data.toList==[])&&(o==0&&ks.isEmpty))))=_
 cases decide (0≤wd) <;> cases (n.data.toList==[]) <;> cases (o==0) <;> rfl
theorem rE_2 {o wd:Int} {n:ByteArray} {ks:List Ex} {ps d:Int} (hd:d≤64):rE (.mk 2 o wd n ks ps) d=(nameB n&&(o==0&&(wd==0&&ks.isEmpty))):=by
 simp only [rE,decide_eq_true hd]
 show (true&&(((false&&decide (0≤wd)) || wd==0)&&(nameB n&&(o==0&&ks.isEmpty))))=_
 rw [Bool.false_and,Bool.false_or,Bool.true_and]
 cases nameB n <;> cases (o==0) <;> cases (wd==0) <;> rfl
theorem rE_3 {o wd:Int} {n:ByteArray} {ks:List Ex} {ps d:Int} (hd:d≤64):rE (.mk 3 o wd n ks ps) d=(oneB o&&(wd==0&&(n.data.toList==[]&&kid1 ks (rEs ks) d))):=by
 simp only [rE,decide_eq_true hd]
 show (true&&(((false&&decide (0≤wd)) || wd==0)&&((n.data.toList==[])&&(oneB o&&kid1 ks (rEs ks) d))))=_
 rw [Bool.false_and,Bool.false_or,Bool.true_and]
 cases oneB o <;> cases (n.data.toList==[]) <;> cases (wd==0) <;> rfl
theorem rE_4 {o wd:Int} {n:ByteArray} {ks:List Ex} {ps d:Int} (hd:d≤64):rE (.mk 4 o wd n ks ps) d=(twoB o&&(wd==0&&(n.data.toList==[]&&kid2 o ks (rEs ks) d))):=by
 simp only [rE,decide_eq_true hd]
 show (true&&(((false&&decide (0≤wd)) || wd==0)&&((n.data.toList==[])&&(twoB o&&kid2 o ks (rEs ks) d))))=_
 rw [Bool.false_and,Bool.false_or,Bool.true_and]
 cases twoB o <;> cases (n.data.toList==[]) <;> cases (wd==0) <;> rfl
theorem rE_0 {k o wd:Int} {n:ByteArray} {ks:List Ex} {ps d:Int} (h1:k≠1) (h2:k≠2) (h3:k≠3) (h4:k≠4):rE (.mk k o wd n ks ps) d=false:=by
 have:kB k o ks (rEs ks) d=false:=by
  unfold kB
  rw [if_neg (by omega),if_neg h3,if_neg h4]
 simp only [rE,this,Bool.and_false]
theorem rE_toodeep {x:Ex} {d:Int} (h:¬ d≤64):rE x d=false:=by
 obtain ⟨k,o,wd,n,ks,ps⟩:=x
 simp only [rE,decide_eq_false h,Bool.false_and]
open Go.RowKit
set_option linter.unusedVariables false
set_option maxRecDepth 100000
def RtE (x:Ex):Prop:=rgE x→fitE x→∀ (v:Value) (w:World) (d:Int),exA w x v→0≤d→d≤1000→Calls Tryz.prog 111 #[v,.int .i64 d] w fun e w'=>e=.returned (.bool (rE x d))∧Below w.heap.size w w'
theorem rt_1 {o wd ps:Int} {n:ByteArray} {ks:List Ex} {a:Option Addr} {cap:Nat} {w:World} {d:Int} (hd0:0≤d) (hd:d≤64) (hk:rgE (.mk 1 o wd n ks ps)) (hf:fitE (.mk 1 o wd n ks ps)) :
 Calls Tryz.prog 111 #[.agg #[.int .u8 1,.int .u8 o,.int .i64 wd,.string n,.slice a ks.length cap,.int .i64 ps],.int .i64 d] w fun e w'=>e=.returned (.bool (rE (.mk 1 o wd n ks ps) d))∧Below w.heap.size w w':=by
 obtain ⟨hk0,ho,hwd,hks⟩:=hk
 obtain ⟨hn,hlen,hfs⟩:=hf
 rw [rE_1 hd]
 have HE:Hid (ks.isEmpty=decide (ks.length=0)):=by
  show _=_
  cases ks with
  | nil=>rfl
  | cons x r=>rfl
 obtain ⟨m,hm⟩:∃ m,m=ks.length:=⟨_,rfl⟩
 rw [← hm] at HE ⊢
 rw [HE.out]
 clear hm HE
 have HB:=Lib.hid (bw_new w 70 #[.int .u8 1,.int .u8 o,.int .i64 wd,.string n,.slice a m cap,.int .i64 ps])
 by_cases q1:0≤wd
 · have g1 : decide (0 ≤ wd) = true := decide_eq_true q1
   rw [g1,Bool.true_and]
   by_cases q2:o=0
   · subst q2
     rw [show ((0:Int)==0)=true from rfl,Bool.true_and]
     by_cases q3:n=⟨#[]⟩
     · subst q3
       rw [show ((⟨#[]⟩:ByteArray).data.toList==[])=true from rfl,Bool.true_and]
       by_cases q4:m=0
       · subst q4
         rw [decide_eq_true rfl]
         go_enter Tryz.func111,Tryz.ntmps111
         go_wp2_with fail
         go_ret
         exact ⟨rfl,HB.out.2⟩
       · have g5 : ((m : Int) == 0) = false := int_f (by omega)
         rw [decide_eq_false q4]
         go_enter Tryz.func111,Tryz.ntmps111
         go_wp2_with fail
         go_ret
         exact ⟨rfl,HB.out.2⟩
     · have g3 := nm_full q3
       have g4:=bt_f q3
       rw [g3,Bool.false_and]
       go_enter Tryz.func111,Tryz.ntmps111
       go_wp2_with fail
       go_ret
       exact ⟨rfl,HB.out.2⟩
   · have g2 := int_f q2
     rw [g2,Bool.false_and]
     go_enter Tryz.func111,Tryz.ntmps111
     go_wp2_with fail
     go_ret
     exact ⟨rfl,HB.out.2⟩
 · have g1 : decide (0 ≤ wd) = false := decide_eq_false q1
   rw [g1,Bool.false_and]
   go_enter Tryz.func111,Tryz.ntmps111
   go_wp2_with fail
   go_ret
   exact ⟨rfl,HB.out.2⟩
theorem rt_2 {o wd ps:Int} {n:ByteArray} {ks:List Ex} {a:Option Addr} {cap:Nat} {w:World} {d:Int} (hd0:0≤d) (hd:d≤64) (hk:rgE (.mk 2 o wd n ks ps)) (hf:fitE (.mk 2 o wd n ks ps)) :
 Calls Tryz.prog 111 #[.agg #[.int .u8 2,.int .u8 o,.int .i64 wd,.string n,.slice a ks.length cap,.int .i64 ps],.int .i64 d] w fun e w'=>e=.returned (.bool (rE (.mk 2 o wd n ks ps) d))∧Below w.heap.size w w':=by
 obtain ⟨hk0,ho,hwd,hks⟩:=hk
 obtain ⟨hn,hlen,hfs⟩:=hf
 rw [rE_2 hd]
 have HE:Hid (ks.isEmpty=decide (ks.length=0)):=by
  show _=_
  cases ks with
  | nil=>rfl
  | cons x r=>rfl
 obtain ⟨m,hm⟩:∃ m,m=ks.length:=⟨_,rfl⟩
 rw [← hm] at HE ⊢
 rw [HE.out]
 clear hm HE
 have HB:=Lib.hid (bw_new w 70 #[.int .u8 2,.int .u8 o,.int .i64 wd,.string n,.slice a m cap,.int .i64 ps])
 have HNM:Hid (∀ W,Calls Tryz.prog 24 #[.string n] W fun e w'=>e=.returned (.bool (nameB n))∧W=w'):=fun W=>rname_any n (by unfold nmOk at hn;omega) W
 obtain ⟨b,hb⟩:∃ b,b=nameB n:=⟨_,rfl⟩
 rw [← hb] at HNM ⊢
 clear hb
 by_cases q1:b=true
 · subst q1
   rw [Bool.true_and]
   by_cases q2:o=0
   · subst q2
     rw [show ((0:Int)==0)=true from rfl,Bool.true_and]
     by_cases q3:wd=0
     · subst q3
       rw [show ((0:Int)==0)=true from rfl,Bool.true_and]
       by_cases q4:m=0
       · subst q4
         rw [decide_eq_true rfl]
         go_enter Tryz.func111,Tryz.ntmps111
         go_wp2_with (go_at_call 24;refine (HNM.out _).mono ?_;rintro e w' ⟨rfl,rfl⟩)
         go_ret
         exact ⟨rfl,HB.out.2⟩
       · have g5 : ((m : Int) == 0) = false := int_f (by omega)
         rw [decide_eq_false q4]
         go_enter Tryz.func111,Tryz.ntmps111
         go_wp2_with (go_at_call 24;refine (HNM.out _).mono ?_;rintro e w' ⟨rfl,rfl⟩)
         go_ret
         exact ⟨rfl,HB.out.2⟩
     · have g3 := int_f q3
       rw [g3,Bool.false_and]
       go_enter Tryz.func111,Tryz.ntmps111
       go_wp2_with (go_at_call 24;refine (HNM.out _).mono ?_;rintro e w' ⟨rfl,rfl⟩)
       go_ret
       exact ⟨rfl,HB.out.2⟩
   · have g2 := int_f q2
     rw [g2,Bool.false_and]
     go_enter Tryz.func111,Tryz.ntmps111
     go_wp2_with (go_at_call 24;refine (HNM.out _).mono ?_;rintro e w' ⟨rfl,rfl⟩)
     go_ret
     exact ⟨rfl,HB.out.2⟩
 · obtain rfl : b = false := by simpa using q1
   rw [Bool.false_and]
   go_enter Tryz.func111,Tryz.ntmps111
   go_wp2_with (go_at_call 24;refine (HNM.out _).mono ?_;rintro e w' ⟨rfl,rfl⟩)
   go_ret
   exact ⟨rfl,HB.out.2⟩
theorem rt_0 {k o wd ps:Int} {n:ByteArray} {ks:List Ex} {a:Option Addr} {cap:Nat} {w:World} {d:Int} (hd0:0≤d) (hd:d≤64) (hk:rgE (.mk k o wd n ks ps)) (hf:fitE (.mk k o wd n ks ps)) (h1:k≠1) (h2:k≠2) (h3:k≠3) (h4:k≠4) :
 Calls Tryz.prog 111 #[.agg #[.int .u8 k,.int .u8 o,.int .i64 wd,.string n,.slice a ks.length cap,.int .i64 ps],.int .i64 d] w fun e w'=>e=.returned (.bool (rE (.mk k o wd n ks ps) d))∧Below w.heap.size w w':=by
 obtain ⟨hk0,ho,hwd,hks⟩:=hk
 obtain ⟨hn,hlen,hfs⟩:=hf
 rw [rE_0 h1 h2 h3 h4]
 obtain ⟨m,hm⟩:∃ m,m=ks.length:=⟨_,rfl⟩
 rw [← hm]
 have HB:=Lib.hid (bw_new w 70 #[.int .u8 k,.int .u8 o,.int .i64 wd,.string n,.slice a m cap,.int .i64 ps])
 have g1:=int_f h1
 have g2:=int_f h2
 have g3:=int_f h3
 have g4:=int_f h4
 clear hm h1 h2 h3 h4
 go_enter Tryz.func111,Tryz.ntmps111
 go_wp2_with fail
 go_ret
 exact ⟨rfl,HB.out.2⟩
theorem rt_deep {k o wd ps:Int} {n:ByteArray} {ks:List Ex} {a:Option Addr} {cap:Nat} {w:World} {d:Int} (hd:¬ d≤64) :
 Calls Tryz.prog 111 #[.agg #[.int .u8 k,.int .u8 o,.int .i64 wd,.string n,.slice a ks.length cap,.int .i64 ps],.int .i64 d] w fun e w'=>e=.returned (.bool (rE (.mk k o wd n ks ps) d))∧Below w.heap.size w w':=by
 rw [rE_toodeep hd]
 obtain ⟨m,hm⟩:∃ m,m=ks.length:=⟨_,rfl⟩
 rw [← hm]
 have HB:=Lib.hid (bw_new w 70 #[.int .u8 k,.int .u8 o,.int .i64 wd,.string n,.slice a m cap,.int .i64 ps])
 have g1:64<d:=by omega
 clear hm hd
 go_enter Tryz.func111,Tryz.ntmps111
 go_wp2_with fail
 go_ret
 exact ⟨rfl,HB.out.2⟩
theorem rt_3 {o wd ps:Int} {n:ByteArray} {ks:List Ex} {a:Option Addr} {cap:Nat} {w:World} {d:Int} (hd0:0≤d) (hd:d≤64) (hk:rgE (.mk 3 o wd n ks ps)) (hf:fitE (.mk 3 o wd n ks ps)) (HI:∀ y∈ks,RtE y) (h1:exsAt (fun _=>True) w ks a) :
 Calls Tryz.prog 111 #[.agg #[.int .u8 3,.int .u8 o,.int .i64 wd,.string n,.slice a ks.length cap,.int .i64 ps],.int .i64 d] w fun e w'=>e=.returned (.bool (rE (.mk 3 o wd n ks ps) d))∧Below w.heap.size w w':=by
 obtain ⟨hk0,ho,hwd,hks⟩:=hk
 obtain ⟨hn,hlen,hfs⟩:=hf
 rw [rE_3 hd]
 have HON:Hid (∀ W,Calls Tryz.prog 139 #[.int .u8 o] W fun e w'=>e=.returned (.bool (oneB o))∧W=w'):=fun W=>r_one o W
 obtain ⟨b,hb⟩:∃ b,b=oneB o:=⟨_,rfl⟩
 rw [← hb] at HON ⊢
 clear hb
 by_cases hl:ks.length=1
 rotate_left
 · have g5 : (((ks.length : Nat) : Int) != 1) = true := by simp; omega
   have hr:kid1 ks (rEs ks) d=false:=by
    cases ks with
    | nil=>rfl
    | cons x r => cases r with
      | nil=>exact absurd rfl hl
      | cons y s=>rfl
   rw [hr]
   obtain ⟨m,hm⟩:∃ m,m=ks.length:=⟨_,rfl⟩
   rw [← hm] at g5 ⊢
   clear hr hl hm h1 HI
   have HB:=Lib.hid (bw_new w 70 #[.int .u8 3,.int .u8 o,.int .i64 wd,.string n,.slice a m cap,.int .i64 ps])
   by_cases q1:b=true
   · subst q1
     rw [Bool.true_and]
     by_cases q3:wd=0
     · subst q3
       rw [show ((0:Int)==0)=true from rfl,Bool.true_and]
       by_cases q2:n=⟨#[]⟩
       · subst q2
         rw [show ((⟨#[]⟩:ByteArray).data.toList==[])=true from rfl,Bool.true_and]
         go_enter Tryz.func111,Tryz.ntmps111
         go_wp2_with (go_at_call 139;refine (HON.out _).mono ?_;rintro e w' ⟨rfl,rfl⟩)
         go_ret
         exact ⟨rfl,HB.out.2⟩
       · have g2 := nm_full q2
         have g4:=bt_f q2
         rw [g2,Bool.false_and]
         go_enter Tryz.func111,Tryz.ntmps111
         go_wp2_with (go_at_call 139;refine (HON.out _).mono ?_;rintro e w' ⟨rfl,rfl⟩)
         go_ret
         exact ⟨rfl,HB.out.2⟩
     · have g3 := int_f q3
       have g3':(wd != 0)=true:=by simpa using q3
       rw [g3,Bool.false_and]
       go_enter Tryz.func111,Tryz.ntmps111
       go_wp2_with (go_at_call 139;refine (HON.out _).mono ?_;rintro e w' ⟨rfl,rfl⟩)
       go_ret
       exact ⟨rfl,HB.out.2⟩
   · obtain rfl : b = false := by simpa using q1
     rw [Bool.false_and]
     go_enter Tryz.func111,Tryz.ntmps111
     go_wp2_with (go_at_call 139;refine (HON.out _).mono ?_;rintro e w' ⟨rfl,rfl⟩)
     go_ret
     exact ⟨rfl,HB.out.2⟩
 obtain ⟨y,rfl⟩:∃ y,ks=[y]:=by
  match ks,hl with
  | [y],_=>exact ⟨y,rfl⟩
 rcases h1 with e | ⟨g,q,rfl,_,e1⟩
 · cases e
 have hIy:=HI y (List.mem_singleton.2 rfl) hks.1 hfs.1
 have e2:=e1.1
 obtain ⟨yk,yo,yw,yn,yks,yp⟩:=y
 obtain ⟨y0,y1,y2,y3,⟨ya,yc,y4,y5k⟩,y5⟩:=e2
 have hIy':∀ W,Below w.heap.size w W→∀ d':Int,0≤d'→d'≤1000→Calls Tryz.prog 111 #[.agg #[.int .u8 yk,.int .u8 yo,.int .i64 yw,.string yn,.slice ya yks.length yc,.int .i64 yp],.int .i64 d'] W fun e w'=>e=.returned (.bool (rE (.mk yk yo yw yn yks yp) d'))∧Below W.heap.size W w':=fun W hW d' h0 h1=>hIy _ W d' ⟨ya,yc,rfl,exsAt_below y5k hW⟩ h0 h1
 change Calls _ _ #[.agg #[.int .u8 3,.int .u8 o,.int .i64 wd,.string n,.slice (some ⟨g,q,none⟩) 1 cap,.int .i64 ps],.int .i64 d] w _
 have HK:Hid (kid1 [Ex.mk yk yo yw yn yks yp] (rEs [Ex.mk yk yo yw yn yks yp]) d=rE (.mk yk yo yw yn yks yp) (d+1+b2i (yk==4))):=rfl
 rw [HK.out]
 obtain ⟨ym,hym⟩:∃ z,z=yks.length:=⟨_,rfl⟩
 rw [← hym] at hIy' y4
 have HIY:=Lib.hid hIy'
 clear HK hym hIy hIy' hl e1 HI hks hfs y5k
 have HB:=Lib.hid (bw_new w 70 #[.int .u8 3,.int .u8 o,.int .i64 wd,.string n,.slice (some ⟨g,q,none⟩) 1 cap,.int .i64 ps])
 have yf0:(w.alloc (.cells #[.int .u8 3,.int .u8 o,.int .i64 wd,.string n,.slice (some ⟨g,q,none⟩) 1 cap,.int .i64 ps] 70)).cell? ⟨g,q,none⟩=some (.int .u8 yk):=by rw [HB.out.2.cell (p:=⟨g,q,none⟩) (cell_lt y0)];exact y0
 have yf1:(w.alloc (.cells #[.int .u8 3,.int .u8 o,.int .i64 wd,.string n,.slice (some ⟨g,q,none⟩) 1 cap,.int .i64 ps] 70)).cell? ⟨g,q+1,none⟩=some (.int .u8 yo):=by rw [HB.out.2.cell (p:=⟨g,q+1,none⟩) (cell_lt y1)];exact y1
 have yf2:(w.alloc (.cells #[.int .u8 3,.int .u8 o,.int .i64 wd,.string n,.slice (some ⟨g,q,none⟩) 1 cap,.int .i64 ps] 70)).cell? ⟨g,q+2,none⟩=some (.int .i64 yw):=by rw [HB.out.2.cell (p:=⟨g,q+2,none⟩) (cell_lt y2)];exact y2
 have yf3:(w.alloc (.cells #[.int .u8 3,.int .u8 o,.int .i64 wd,.string n,.slice (some ⟨g,q,none⟩) 1 cap,.int .i64 ps] 70)).cell? ⟨g,q+3,none⟩=some (.string yn):=by rw [HB.out.2.cell (p:=⟨g,q+3,none⟩) (cell_lt y3)];exact y3
 have yf4:(w.alloc (.cells #[.int .u8 3,.int .u8 o,.int .i64 wd,.string n,.slice (some ⟨g,q,none⟩) 1 cap,.int .i64 ps] 70)).cell? ⟨g,q+4,none⟩=some (.slice ya ym yc):=by rw [HB.out.2.cell (p:=⟨g,q+4,none⟩) (cell_lt y4)];exact y4
 have yf5:(w.alloc (.cells #[.int .u8 3,.int .u8 o,.int .i64 wd,.string n,.slice (some ⟨g,q,none⟩) 1 cap,.int .i64 ps] 70)).cell? ⟨g,q+5,none⟩=some (.int .i64 yp):=by rw [HB.out.2.cell (p:=⟨g,q+5,none⟩) (cell_lt y5)];exact y5
 clear y0 y1 y2 y3 y4 y5
 by_cases q1:b=true
 rotate_left
 · obtain rfl : b = false := by simpa using q1
   rw [Bool.false_and]
   go_enter Tryz.func111,Tryz.ntmps111
   go_wp2_with (go_at_call 139;refine (HON.out _).mono ?_;rintro e w' ⟨rfl,rfl⟩)
   go_ret
   exact ⟨rfl,HB.out.2⟩
 subst q1
 rw [Bool.true_and]
 by_cases q3:wd=0
 rotate_left
 · have g3 := int_f q3
   have g3':(wd != 0)=true:=by simpa using q3
   rw [g3,Bool.false_and]
   go_enter Tryz.func111,Tryz.ntmps111
   go_wp2_with (go_at_call 139;refine (HON.out _).mono ?_;rintro e w' ⟨rfl,rfl⟩)
   go_ret
   exact ⟨rfl,HB.out.2⟩
 subst q3
 rw [show ((0:Int)==0)=true from rfl,Bool.true_and]
 by_cases q2:n=⟨#[]⟩
 rotate_left
 · have g2 := nm_full q2
   have g4:=bt_f q2
   rw [g2,Bool.false_and]
   go_enter Tryz.func111,Tryz.ntmps111
   go_wp2_with (go_at_call 139;refine (HON.out _).mono ?_;rintro e w' ⟨rfl,rfl⟩)
   go_ret
   exact ⟨rfl,HB.out.2⟩
 subst q2
 rw [show ((⟨#[]⟩:ByteArray).data.toList==[])=true from rfl,Bool.true_and]
 by_cases q6:yk=4
 · subst q6
   rw [show b2i ((4:Int)==4)=1 from rfl]
   by_cases q7:d+1≤64
   · have hd2 : d + 2 ≤ 1000 := by omega
     rw [show d+1+1=d+2 by omega]
     have HC:=Lib.hid (HIY.out _ HB.out.2 (d+2) (by omega) hd2)
     go_enter Tryz.func111,Tryz.ntmps111
     go_wp2_with (first | (go_at_call 139;refine (HON.out _).mono ?_;rintro e w' ⟨rfl,rfl⟩) | (go_at_call 111;refine (HC.out).mono ?_;rintro e w' ⟨rfl,hb⟩;have HB2:=Lib.hid (HB.out.2.trans (hb.mono HB.out.2.size));clear hb))
     go_ret
     exact ⟨rfl,HB2.out⟩
   · have q8 : decide (d + 1 ≤ 64) = false := decide_eq_false q7
     have q9:64<d+1:=by omega
     have hr:rE (.mk 4 yo yw yn yks yp) (d+1+1)=false:=rE_toodeep (by omega)
     rw [hr]
     clear hr HIY
     go_enter Tryz.func111,Tryz.ntmps111
     go_wp2_with (go_at_call 139;refine (HON.out _).mono ?_;rintro e w' ⟨rfl,rfl⟩)
     go_ret
     exact ⟨rfl,HB.out.2⟩
 · have q7 := int_f q6
   rw [q7,show d+1+b2i false=d+1 by unfold b2i;simp]
   have HC:=Lib.hid (HIY.out _ HB.out.2 (d+1) (by omega) (by omega))
   clear q6 HIY
   go_enter Tryz.func111,Tryz.ntmps111
   go_wp2_with (first | (go_at_call 139;refine (HON.out _).mono ?_;rintro e w' ⟨rfl,rfl⟩) | (go_at_call 111;refine (HC.out).mono ?_;rintro e w' ⟨rfl,hb⟩;have HB2:=Lib.hid (HB.out.2.trans (hb.mono HB.out.2.size));clear hb))
   go_ret
   exact ⟨rfl,HB2.out⟩
end Go.Proofs.YtimccjlhhjjcpaaGreatDoor

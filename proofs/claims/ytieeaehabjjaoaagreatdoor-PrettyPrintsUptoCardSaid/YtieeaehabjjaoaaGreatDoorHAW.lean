/- The proof, part 23: texts that belong together, in one. -/
import Derived.Test.YtieeaehabjjaoaaGreatDoorHAG
import Derived.Test.YtieeaehabjjaoaaGreatDoorHAB
import Derived.Test.YtieeaehabjjaoaaGreatDoorHAE
import Derived.Test.YtieeaehabjjaoaaGreatDoorHAA
import Derived.Test.YtieeaehabjjaoaaGreatDoorHAQ
import Derived.StillTailTactics
import Derived.Deep.RegionWith
import Derived.Lib.ItoaMem
import Derived.Laws.IdiomStrings
set_option maxRecDepth 100000
set_option maxHeartbeats 20000000
namespace Go.Proofs.YtieeaehabjjaoaaGreatDoor
open Go.RowKit
set_option linter.unusedVariables false
set_option maxRecDepth 100000
def UxA (b:Nat) (txt:List UInt8) (v:Value) (W:World):Prop:=Own W b 48 #[v,.bool false]∧txt.length≤65536∧W.ownsRow (b+1) 5 1 v txt.length (Lib.byteCells txt)
def UxB (b:Nat) (txt:List UInt8) (v:Value) (W:World):Prop:=Own W b 48 #[v,.bool true]∧65536<txt.length
def Ux (b:Nat) (txt:List UInt8) (W:World):Prop:=∃ v,UxA b txt v W∨UxB b txt v W
theorem Ux.lt {b:Nat} {txt:List UInt8} {W:World} (h:Ux b txt W):b<W.heap.size:=by
 obtain ⟨v,h | h⟩:=h
 · exact h.1.lt
 · exact h.1.lt
theorem Ux.below {b:Nat} {txt:List UInt8} {W W':World} (h:Ux b txt W) (hb:Below W.heap.size W W'):Ux b txt W':=by
 obtain ⟨v,⟨h1,h2,h3⟩ | ⟨h1,h2⟩⟩:=h
 · exact ⟨v,.inl ⟨h1.below hb,h2,row_below h3 hb⟩⟩
 · exact ⟨v,.inr ⟨h1.below hb,h2⟩⟩
def UPut (b:Nat) (txt t:List UInt8) (W:World) (e:Ending) (w':World):Prop :=
 e=.returned (.tuple #[])∧Ux b (txt++t) w'∧Keep (selW b) W w'∧Below b W w'
theorem u_slice {b:Nat} {txt:List UInt8} {v:Value} {W:World} (h:UxA b txt v W):∃ ao cap,v=.slice ao txt.length cap:=by
 rcases h.2.2.2 with ⟨hv,h0⟩ | ⟨g,cap,cur,hv,_⟩
 · exact ⟨none,0,by rw [hv,h0]⟩
 · exact ⟨_,_,hv⟩
theorem u_put0 {b:Nat} {txt:List UInt8} {w:World} (h:Ux b txt w) (s:ByteArray) (hs:s.size≤140737488289792) :
 Calls Tryz.prog 23 #[.pointer (some ⟨b,0,none⟩),.string s] w (UPut b txt s.data.toList w):=by
 have hsl:s.data.toList.length=s.size:=Array.length_toList
 obtain ⟨v,h | h⟩:=h
 · obtain ⟨ao, cap, rfl⟩ := u_slice h
   obtain ⟨ho,hle,hr⟩:=h
   have c0:w.cell? ⟨b,0,none⟩=some (.slice ao txt.length cap):=by rw [cell_of_row _ _ 0 _ _ _ ho];rfl
   have c1:w.cell? ⟨b,1,none⟩=some (.bool false):=by rw [cell_of_row _ _ 1 _ _ _ ho];rfl
   have z0:w.frozen? ⟨b,0,none⟩=false:=own_frozen ho 0
   have z1:w.frozen? ⟨b,1,none⟩=false:=own_frozen ho 1
   have HO:=Lib.hid ho
   have HR:=Lib.hid hr
   obtain ⟨n,hn⟩:∃ n,n=txt.length:=⟨_,rfl⟩
   rw [← hn] at c0 hle HR HO
   have HN:=Lib.hid hn
   have HSL:=Lib.hid hsl
   have hlt:b<w.heap.size:=ho.lt
   clear ho hr hn hsl
   by_cases hbig:(65536:Int)-(n:Int)<(s.size:Int)
   · have HF : Hid (UPut b txt s.data.toList w (.returned (.tuple #[])) (w.setCell ⟨b, 1, none⟩ (.bool true))) := by
      refine ⟨rfl,⟨_,.inr ⟨heap_setCell_same w b 1 _ _ _ HO.out,?_⟩⟩,(Keep.refl _ w).setCell (p:=⟨b,1,none⟩) _ HO.out (fun hs=>hs.1 rfl),(Below.refl b w).setCell (p:=⟨b,1,none⟩) (Nat.le_refl b) _⟩
      rw [List.length_append,← HN.out,HSL.out]
      omega
     clear HO HR HN HSL hlt
     go_enter Tryz.func23,Tryz.ntmps23
     go_wp2_with fail
     exact bodyPost_ret (results_none rfl _ _ _) rfl HF.out
   · obtain ⟨i0, hi, hz0, hz1, hz2⟩ := info_parts infoU8'
     have hrow:=HR.out
     go_enter Tryz.func23,Tryz.ntmps23
     go_wp2_with (at_builtin;refine Lib.wpList_append_own_string _ rfl _ _ 46 9 rfl (b+1) 5 i0 Tryz.underlying46 Tryz.underlying9 hi hz0 hz1 hz2 _ _ _ rfl hrow s rfl ?c3 ?c4 ?c5 ?_)
     case c3=>unfold maxLen;omega
     case c4=>omega
     case c5=>omega
     intro v' w2 hown' hgrow hiff
     have hne:(Value.slice ao n cap).ownBlock≠some b:=by
      intro e
      obtain ⟨h1,_⟩:=HR.out.lt _ e
      omega
     have hb2:Own w2 b 48 #[.slice ao n cap,.bool false]:=by
      have:=hgrow.block b hlt (fun e=>hne e.symm)
      exact this.trans HO.out
     have d0:w2.cell? ⟨b,0,none⟩=some (.slice ao n cap):=by rw [cell_of_row _ _ 0 _ _ _ hb2];rfl
     have f0:w2.frozen? ⟨b,0,none⟩=false:=own_frozen hb2 0
     have kG:Keep (selW b) w w2:=(Keep.refl _ w).grown hgrow (row_bytesW HR.out b (fun _ _ _ ho=>ho))
     have HF:Hid (UPut b txt s.data.toList w (.returned (.tuple #[])) (w2.setCell ⟨b,0,none⟩ v')):=by
      refine ⟨rfl,⟨_,.inl ⟨heap_setCell_same w2 b 0 _ _ _ hb2,?_,?_⟩⟩,kG.setCell (p:=⟨b,0,none⟩) _ hb2 (fun hs=>hs.1 rfl),?_⟩
      · rw [List.length_append,← HN.out,HSL.out];omega
      · have h3 : (txt ++ s.data.toList).length = n + s.size := by rw [List.length_append, ← HN.out, HSL.out]
        rw [h3,← bytes_append,← strCells_bytes]
        exact ownsRow_setCell_below hown' (show b<b+1 by omega) _
      · exact ((Below.refl b w).grown hgrow (by omega) (fun k hk=>by have:=(HR.out.lt k hk).1;omega)).setCell (p:=⟨b,0,none⟩) (Nat.le_refl b) _
     obtain ⟨ao',n',cap',rfl⟩:∃ ao n' cap,v'=.slice ao n' cap:=by
      rcases hown'.2 with ⟨hv,_⟩ | ⟨g,cap,cur,hv,_⟩
      · exact ⟨_,_,_,hv⟩
      · exact ⟨_,_,_,hv⟩
     clear hb2 hiff hown' hgrow kG hne HO HR hrow
     go_wp2
     exact bodyPost_end (results_none rfl _ _ _) rfl HF.out
 · obtain ⟨ho, hgt⟩ := h
   have c1:w.cell? ⟨b,1,none⟩=some (.bool true):=by rw [cell_of_row _ _ 1 _ _ _ ho];rfl
   have z1:w.frozen? ⟨b,1,none⟩=false:=own_frozen ho 1
   have HF:Hid (UPut b txt s.data.toList w (.returned (.tuple #[])) (w.setCell ⟨b,1,none⟩ (.bool true))):=by
    refine ⟨rfl,⟨_,.inr ⟨heap_setCell_same w b 1 _ _ _ ho,?_⟩⟩,(Keep.refl _ w).setCell (p:=⟨b,1,none⟩) _ ho (fun hs=>hs.1 rfl),(Below.refl b w).setCell (p:=⟨b,1,none⟩) (Nat.le_refl b) _⟩
    rw [List.length_append]
    omega
   clear ho hgt hsl
   go_enter Tryz.func23,Tryz.ntmps23
   go_wp2_with fail
   exact bodyPost_ret (results_none rfl _ _ _) rfl HF.out
def Ust (w0 w:World) (b gx:Nat) (ty:TypeId) (row:Array Value) (t:List UInt8) (W:World):Prop :=
 Own W gx ty row∧Ux b t W∧Below b w0 W∧Keep (selW b) w W∧Below b w W
def Nu8 (ty:TypeId):Prop:=∀ cs:Array Value,¬ IsTy 5 (.cells cs ty)
section
variable {w0 w W W':World} {b gx:Nat} {ty:TypeId} {row:Array Value} {t:List UInt8}
theorem ust_below (h:Ust w0 w b gx ty row t W) (hb:Below W.heap.size W W'):Ust w0 w b gx ty row t W':=by
 obtain ⟨h1,h2,h3,h4,h5⟩:=h
 have hb':Below b W W':=hb.mono (Nat.le_of_lt h2.lt)
 exact ⟨h1.below hb,h2.below hb,h3.trans hb',h4.trans (keep_below hb),h5.trans hb'⟩
theorem ust_put (h:Ust w0 w b gx ty row t W) (hg:gx≠b) (hn:Nu8 ty) {u:List UInt8} {e:Ending} (hp:UPut b t u W e W'):e=.returned (.tuple #[])∧Ust w0 w b gx ty row (t++u) W':=by
 obtain ⟨h1,h2,h3,h4,h5⟩:=h
 obtain ⟨he,hw,hk,hb⟩:=hp
 exact ⟨he,hk.block _ _ h1 ⟨hg,hn _⟩,hw,h3.trans hb,h4.trans hk,h5.trans hb⟩
theorem ust_done {u:List UInt8} (h:Ust w0 w b gx ty row (t++u) W):UPut b t u w (.returned (.tuple #[])) W:=⟨rfl,h.2.1,h.2.2.2.1,h.2.2.2.2⟩
theorem ust_new (h:Ux b t w) (hb:Below b w0 w) (ty:TypeId) (row:Array Value):Ust w0 w b w.heap.size ty row t (w.alloc (.cells row ty)):=by
 have al:Below w.heap.size w (w.alloc (.cells row ty)):=(Below.refl _ w).alloc (Nat.le_refl _) _
 exact ⟨Own.new w _ _,h.below al,hb.trans (al.mono (Nat.le_of_lt h.lt)),keep_below al,al.mono (Nat.le_of_lt h.lt)⟩
theorem u_put (h:Ust w0 w b gx ty row t W) (hg:gx≠b) (hn:Nu8 ty) (s:ByteArray) (hs:s.size≤140737488289792) :
 Calls Tryz.prog 23 #[.pointer (some ⟨b,0,none⟩),.string s] W fun e W'=>e=.returned (.tuple #[])∧Ust w0 w b gx ty row (t++s.data.toList) W' :=
 (u_put0 h.2.1 s hs).mono fun _ _ hp=>ust_put h hg hn hp
end
theorem marg_snoc (d:Nat):marg (d+1)=marg d++[32,32]:=by
 unfold marg
 induction d with
 | zero=>rfl
 | succ d ih =>
   have ih':[32,32]++Lib.repeatL [32,32] d=Lib.repeatL [32,32] d++[32,32]:=ih
   show [32,32]++([32,32]++Lib.repeatL [32,32] d)=([32,32]++Lib.repeatL [32,32] d)++[32,32]
   rw [List.append_assoc,← ih']
theorem u_marg0 {b:Nat} {txt:List UInt8} {w:World} (h:Ux b txt w) (d:Nat) (hd:d≤1000) :
 Calls Tryz.prog 94 #[.pointer (some ⟨b,0,none⟩),.int .i64 (d:Int)] w (UPut b txt (marg d) w):=by
 have HP:Hid (∀ t W,Ux b t W→Calls Tryz.prog 23 #[.pointer (some ⟨b,0,none⟩),.string ⟨#[32,32]⟩] W (UPut b t [32,32] W)):=fun t W h=>u_put0 h ⟨#[32,32]⟩ (by decide)
 have HW:=Lib.hid h
 clear h
 go_enter Tryz.func94,Tryz.ntmps94
 go_wp2_with fail
 go_loopg [4] (d+1) (fun m' u W=>∃ i:Nat,u=.int .i64 (i:Int)∧i≤d∧m'=d-i+1∧Ux b (txt++marg i) W∧Keep (selW b) w W∧Below b w W)
 case atStart=>exact ⟨0,rfl,Nat.zero_le _,by omega,by rw [show marg 0=[] from rfl,List.append_nil];exact HW.out,Keep.refl _ _,Below.refl _ _⟩
 case round =>
  obtain ⟨i,rfl,hi,hm,hx,hk,hb⟩:=hrel
  have HM:=Lib.hid hm
  have HX:=Lib.hid hx
  have HK:=Lib.hid hk
  have HB:=Lib.hid hb
  clear hm hk hb hx HW
  obtain ⟨v,hx | hx⟩:=HX.out
  · have c1 : wr.cell? ⟨b, 1, none⟩ = some (.bool false) := by rw [cell_of_row _ _ 1 _ _ _ hx.1]; rfl
    clear hx
    by_cases hin:i<d
    · have hin' : (i : Int) < (d : Int) := by omega
      go_wp2_with fail
      go_at_call 23
      refine (HP.out _ _ HX.out).mono ?_
      rintro e w2 ⟨rfl,hx2,hk2,hb2⟩
      have HX2:=Lib.hid hx2
      have HK2:=Lib.hid (HK.out.trans hk2)
      have HB2:=Lib.hid (HB.out.trans hb2)
      clear hx2 hk2 hb2 c1
      go_wp2_with fail
      go_roundg (d-(i+1)+1)
      case measure=>have:=HM.out;omega
      case rel=>exact ⟨i+1,by simp,by omega,by omega,by rw [marg_snoc,← List.append_assoc];exact HX2.out,HK2.out,HB2.out⟩
    · have hin2 : i = d := by omega
      subst hin2
      have HF:Hid (UPut b txt (marg i) w (.returned (.tuple #[])) wr):=⟨rfl,HX.out,HK.out,HB.out⟩
      go_wp2_with fail
      exact bodyPost_end (results_none rfl _ _ _) rfl HF.out
  · have c1 : wr.cell? ⟨b, 1, none⟩ = some (.bool true) := by rw [cell_of_row _ _ 1 _ _ _ hx.1]; rfl
    have HF:Hid (UPut b txt (marg d) w (.returned (.tuple #[])) wr):=by
     refine ⟨rfl,⟨v,.inr ⟨hx.1,?_⟩⟩,HK.out,HB.out⟩
     have:=hx.2
     rw [List.length_append,marg_len] at this ⊢
     omega
    clear hx
    by_cases hin:i<d
    · have hin' : (i : Int) < (d : Int) := by omega
      go_wp2_with fail
      exact bodyPost_end (results_none rfl _ _ _) rfl HF.out
    · have hin2 : i = d := by omega
      subst hin2
      go_wp2_with fail
      exact bodyPost_end (results_none rfl _ _ _) rfl HF.out
theorem u_marg {w0 w W:World} {b gx:Nat} {ty:TypeId} {row:Array Value} {t:List UInt8} (h:Ust w0 w b gx ty row t W) (hg:gx≠b) (hn:Nu8 ty) (d:Nat) (hd:d≤1000) :
 Calls Tryz.prog 94 #[.pointer (some ⟨b,0,none⟩),.int .i64 (d:Int)] W fun e W'=>e=.returned (.tuple #[])∧Ust w0 w b gx ty row (t++marg d) W' :=
 (u_marg0 h.2.1 d hd).mono fun _ _ hp=>ust_put h hg hn hp
open Go.RowKit
set_option linter.unusedVariables false
theorem rname_any (s:ByteArray) (hs:s.size≤4611686018427387904) (w:World):Calls Tryz.prog 48 #[.string s] w fun e w'=>e=.returned (.bool (nameB s))∧w=w':=by
 by_cases h0:0<s.size
 · by_cases h32 : (32 : Int) < (s.size : Int)
   · have hR : Hid (nameB s = false) := by
      unfold nameB
      rw [Hid,decide_eq_true h0,decide_eq_false (p:=s.size≤32) (by omega)];rfl
     have h1:¬ (s.size:Int)<1:=by omega
     rw [hR.out]
     go_enter Tryz.func48,Tryz.ntmps48
     go_wp2
     go_ret
     exact ⟨rfl,rfl⟩
   · have hs32 : s.size ≤ 32 := by omega
     have h1:¬ (s.size:Int)<1:=by omega
     have hx0:=PlainAid.bt_nonneg s 0
     have hx1:=PlainAid.bt_le s 0
     obtain ⟨c,hc⟩:∃ c,Hid (c=PlainAid.bt s 0):=⟨_,rfl⟩
     rw [← hc.out] at hx0 hx1
     have hbt0:∀ h:0<s.size,((s[0]'h).toNat:Int)=c:=fun h=>by rw [hc.out];exact PlainAid.get_bt s 0 h
     obtain ⟨q1,hq1⟩:∃ q,Hid (q=digitB c):=⟨_,rfl⟩
     obtain ⟨q2,hq2⟩:∃ q,Hid (q=wordB s):=⟨_,rfl⟩
     obtain ⟨q3,hq3⟩:∃ q,Hid (q=decide (spanN namedB s.data.toList=s.size)):=⟨_,rfl⟩
     have H1:Hid (∀ W:World,Calls Tryz.prog 89 #[.int .u8 c] W fun e w'=>e=.returned (.bool q1)∧W=w'):=fun W=>by
      rw [hq1.out];exact rdigit_any c hx0 hx1 W
     have H2:Hid (Calls Tryz.prog 90 #[.string s] w fun e w'=>e=.returned (.bool q2)∧w=w'):=by
      rw [hq2.out];exact rword_any s w
     have hR:Hid (nameB s=(!q1&&(!q2&&q3))):=by
      rw [Hid,hq1.out,hq2.out,hq3.out,hc.out]
      unfold nameB
      rw [decide_eq_true h0,decide_eq_true hs32];rfl
     rw [hR.out]
     go_enter Tryz.func48,Tryz.ntmps48
     go_wp2_with (first
      | (go_at_call 89;refine (H1.out _).mono ?_;rintro e w' ⟨rfl,rfl⟩)
      | (go_at_call 90;refine (H2.out).mono ?_;rintro e w' ⟨rfl,rfl⟩))
     · go_ret
       refine ⟨ret_bool ?_,rfl⟩
       simp [*]
     · go_ret
       refine ⟨ret_bool ?_,rfl⟩
       simp [*]
     · obtain rfl : q1 = false := by first | assumption | exact Bool.eq_false_iff.2 (by assumption)
       obtain rfl:q2=false:=by first | assumption | exact Bool.eq_false_iff.2 (by assumption)
       have hfin:Hid ((!false&&(!false&&q3))=q3):=rfl
       clear H1 H2 hR hq1 hq2
       go_loopw [2,3] (fun _ i wr=>w=wr∧∃ k:Nat,k≤s.size∧i=.int .i64 k∧Hid (decide (spanN namedB (bytesFrom s k)+k=s.size)=q3)) (fun _ i _=>s.size-(intOf i).toNat)
       case atStart=>exact ⟨rfl,0,Nat.zero_le _,rfl,hq3.out.symm⟩
       case round =>
        obtain ⟨rfl,k,hk,rfl,hp⟩:=hrel
        by_cases hlt:k<s.size
        · have hy0 := PlainAid.bt_nonneg s k
          have hy1:=PlainAid.bt_le s k
          have hu:((s[k]).toNat:Int)=PlainAid.bt s k:=PlainAid.get_bt s k hlt
          have hfr:=from_at s k hlt
          obtain ⟨d,hd⟩:∃ c,c=PlainAid.bt s k:=⟨_,rfl⟩
          have hbt:∀ h:k<s.size,((s[k]'h).toNat:Int)=d:=fun h=>by rw [hd];exact PlainAid.get_bt s k h
          rw [← hd] at hu hy0 hy1
          clear hd
          have K1:=Lib.hid (fun w=>rletter_any d hy0 hy1 w)
          have K2:=Lib.hid (fun w=>rdigit_any d hy0 hy1 w)
          obtain ⟨a,ha⟩:∃ a,a=letterB d:=⟨_,rfl⟩
          obtain ⟨b,hb⟩:∃ b,b=digitB d:=⟨_,rfl⟩
          have e:namedB d=(a || b):=by rw [ha,hb];rfl
          rw [← ha] at K1
          rw [← hb] at K2
          clear ha hb
          by_cases hpc:(a || b)=true
          · have hn : Hid (decide (spanN namedB (bytesFrom s (k + 1)) + (k + 1) = s.size) = q3) := by
             have hsp:spanN namedB (bytesFrom s k)=spanN namedB (bytesFrom s (k+1))+1:=by rw [hfr];simp only [spanN];rw [hu,e,if_pos hpc]
             rw [Hid,← hp.out,hsp];congr 1;apply propext;constructor <;> intro h <;> omega
            clear hfr hu hp e
            cases a
            · obtain rfl : b = true := by simpa using hpc
              clear hpc
              go_wp2_with (first
               | (go_at_call 91;refine (K1.out _).mono ?_;rintro e w' ⟨rfl,rfl⟩)
               | (go_at_call 89;refine (K2.out _).mono ?_;rintro e w' ⟨rfl,rfl⟩))
              go_roundw
              case rel=>exact ⟨by trivial,k+1,by omega,by go_num,hn⟩
              case measure=>simp [intOf];omega
            · clear hpc
              go_wp2_with (first
               | (go_at_call 91;refine (K1.out _).mono ?_;rintro e w' ⟨rfl,rfl⟩)
               | (go_at_call 89;refine (K2.out _).mono ?_;rintro e w' ⟨rfl,rfl⟩))
              go_roundw
              case rel=>exact ⟨by trivial,k+1,by omega,by go_num,hn⟩
              case measure=>simp [intOf];omega
          · have hn : Hid (false = q3) := by
             have hsp:spanN namedB (bytesFrom s k)=0:=by rw [hfr];simp only [spanN];rw [hu,e,if_neg hpc]
             rw [Hid,← hp.out,hsp];simp;omega
            obtain ⟨rfl,rfl⟩:a=false∧b=false:=by simpa using hpc
            clear hfr hu hp e hpc
            go_wp2_with (first
             | (go_at_call 91;refine (K1.out _).mono ?_;rintro e w' ⟨rfl,rfl⟩)
             | (go_at_call 89;refine (K2.out _).mono ?_;rintro e w' ⟨rfl,rfl⟩))
            go_ret
            refine ⟨ret_bool ?_,rfl⟩
            first | (rw [hfin.out,← hn.out]) | exact hn.out
        · have hn : Hid (true = q3) := by
           have hsp:spanN namedB (bytesFrom s k)=0:=by rw [from_end s k (by omega)];rfl
           rw [Hid,← hp.out,hsp];simp;omega
          clear hp
          go_wp2_with fail
          go_ret
          refine ⟨ret_bool ?_,rfl⟩
          first | (rw [hfin.out,← hn.out]) | exact hn.out
 · obtain rfl := empty_of h0
   have hR:Hid (nameB ⟨#[]⟩=false):=rfl
   rw [hR.out]
   clear h0
   go_enter Tryz.func48,Tryz.ntmps48
   go_wp2
   go_ret
   exact ⟨rfl,rfl⟩
open Go.RowKit
set_option linter.unusedVariables false
theorem r_one (o:Int) (w:World):Calls Tryz.prog 169 #[.int .u8 o] w fun e w'=>e=.returned (.bool (oneB o))∧w=w':=by
 by_cases h17:o=17
 · subst h17
   go_enter Tryz.func169,Tryz.ntmps169
   go_wp2_with fail
   go_ret
   exact ⟨rfl,rfl⟩
 · have q1 := int_f h17
   by_cases h18:o=18
   · subst h18
     go_enter Tryz.func169,Tryz.ntmps169
     go_wp2_with fail
     go_ret
     exact ⟨rfl,rfl⟩
   · have q2 := int_f h18
     have hr:oneB o=false:=by unfold oneB;rw [q1,q2];rfl
     rw [hr]
     go_enter Tryz.func169,Tryz.ntmps169
     go_wp2_with fail
     go_ret
     exact ⟨rfl,rfl⟩
theorem twoB_of (o:Int) (h0:0≤o):twoB o=(decide (1≤o)&&decide (o≤16)):=by
 by_cases h:o<19
 · have : ∀ i : Nat, i < 19 → twoB (i : Int) = (decide (1 ≤ (i : Int)) && decide ((i : Int) ≤ 16)) := by decide
   have:=this o.toNat (by omega)
   rwa [show ((o.toNat:Nat):Int)=o by omega] at this
 · have hl : levelOf o = 0 := by
    unfold levelOf
    split
    · rfl
    · omega
   unfold twoB
   rw [hl,decide_eq_false (p:=o≤16) (by omega),Bool.and_false];rfl
theorem r_two (o:Int) (h0:0≤o) (w:World):Calls Tryz.prog 170 #[.int .u8 o] w fun e w'=>e=.returned (.bool (twoB o))∧w=w':=by
 rw [twoB_of o h0]
 by_cases h1:1≤o
 · by_cases h2 : o ≤ 16
   · rw [decide_eq_true h1, decide_eq_true h2]
     go_enter Tryz.func170,Tryz.ntmps170
     go_wp2
     go_ret
     exact ⟨rfl,rfl⟩
   · have h3 : 16 < o := by omega
     rw [decide_eq_true h1,decide_eq_false h2]
     go_enter Tryz.func170,Tryz.ntmps170
     go_wp2
     go_ret
     first
      | exact ⟨rfl,rfl⟩
      | exact ⟨ret_bool (decide_eq_false h2),rfl⟩
 · have h3 : o < 1 := by omega
   rw [decide_eq_false h1]
   clear h1
   go_enter Tryz.func170,Tryz.ntmps170
   go_wp2
   go_ret
   exact ⟨rfl,rfl⟩
def wrB (o:Int) (x:Ex) (b:Bool):Bool:=bif b then wrR o x else wrL o x
theorem r_inner (o:Int) (x:Ex) (b:Bool) (h0:0≤o) (hk0:0≤x.op) (a:Option Addr) (c:Nat) (m:Nat) (w:World):Calls Tryz.prog 132 #[.int .u8 o,.agg #[.int .u8 x.kind,.int .u8 x.op,.int .i64 x.wd,.string x.name,.slice a m c,.int .i64 x.pos],.bool b] w fun e w'=>e=.returned (.bool (wrB o x b))∧Below w.heap.size w w':=by
 have HV:Hid (∀ (n:Int),0≤n→∀ W,Calls Tryz.prog 171 #[.int .u8 n] W fun e w'=>e=.returned (.int .i64 (levelOf n))∧Below W.heap.size W w'):=fun n hn W=>rlevel_any n hn W
 obtain ⟨k,p,wd,nm,ks,ps⟩:=x
 change 0≤p at hk0
 change Calls _ _ #[_,.agg #[.int .u8 k,.int .u8 p,.int .i64 wd,.string nm,.slice a m c,.int .i64 ps],_] w _
 have HB:=Lib.hid ((Below.refl w.heap.size w).alloc (Nat.le_refl _) (.cells #[.int .u8 k,.int .u8 p,.int .i64 wd,.string nm,.slice a m c,.int .i64 ps] 59))
 by_cases hk:k=4
 · subst hk
   have HR:Hid (wrB o (.mk 4 p wd nm ks ps) b=(decide (levelOf p<levelOf o) || (b&&decide (levelOf p=levelOf o)))):=by
    show _=_
    unfold wrB wrR wrL
    show (bif b then ((4:Int)==4&&decide (levelOf p≤levelOf o)) else ((4:Int)==4&&decide (levelOf p<levelOf o)))=_
    cases b
    · simp
    · simp only [cond_true, Bool.true_and, beq_self_eq_true]
      by_cases h1:levelOf p<levelOf o
      · rw [decide_eq_true h1,decide_eq_true (p:=levelOf p≤levelOf o) (by omega)];rfl
      · rw [decide_eq_false h1, Bool.false_or]
        by_cases h2:levelOf p=levelOf o
        · rw [decide_eq_true h2,decide_eq_true (p:=levelOf p≤levelOf o) (by omega)]
        · rw [decide_eq_false h2,decide_eq_false (p:=levelOf p≤levelOf o) (by omega)]
   rw [HR.out]
   have HP:=HV.out p hk0
   have HO:=HV.out o h0
   obtain ⟨la,hla⟩:∃ z,z=levelOf p:=⟨_,rfl⟩
   obtain ⟨lb,hlb⟩:∃ z,z=levelOf o:=⟨_,rfl⟩
   rw [← hla] at HP ⊢
   rw [← hlb] at HO ⊢
   have HP:=Lib.hid HP
   have HO:=Lib.hid HO
   clear HR HV hla hlb hk0 h0
   by_cases q1:la<lb
   · have q2 : decide (la < lb) = true := decide_eq_true q1
     rw [q2]
     go_enter Tryz.func132,Tryz.ntmps132
     go_wp2_with (first
      | (go_at_call_of 171 (Value.int .u8 p);refine (HP.out _).mono ?_;rintro e w1 ⟨rfl,hb1⟩;have HB1:=Lib.hid (HB.out.trans (hb1.mono HB.out.size));clear hb1)
      | (go_at_call_of 171 (Value.int .u8 o);refine (HO.out _).mono ?_;rintro e w2 ⟨rfl,hb2⟩;have HB2:=Lib.hid (HB1.out.trans (hb2.mono HB1.out.size));clear hb2))
     go_ret
     exact ⟨rfl,HB2.out⟩
   · have q2 : decide (la < lb) = false := decide_eq_false q1
     rw [q2,Bool.false_or]
     cases b
     · go_enter Tryz.func132, Tryz.ntmps132
       go_wp2_with (first
        | (go_at_call_of 171 (Value.int .u8 p);refine (HP.out _).mono ?_;rintro e w1 ⟨rfl,hb1⟩;have HB1:=Lib.hid (HB.out.trans (hb1.mono HB.out.size));clear hb1)
        | (go_at_call_of 171 (Value.int .u8 o);refine (HO.out _).mono ?_;rintro e w2 ⟨rfl,hb2⟩;have HB2:=Lib.hid (HB1.out.trans (hb2.mono HB1.out.size));clear hb2))
       go_ret
       exact ⟨rfl,HB2.out⟩
     · have q3 : (la == lb) = decide (la = lb) := by
        by_cases h:la=lb
        · rw [decide_eq_true h];exact int_t h
        · rw [decide_eq_false h];exact int_f h
       obtain ⟨z,hz⟩:∃ z,z=decide (la=lb):=⟨_,rfl⟩
       rw [← hz] at q3 ⊢
       clear hz q1
       go_enter Tryz.func132,Tryz.ntmps132
       go_wp2_with (first
        | (go_at_call_of 171 (Value.int .u8 p);refine (HP.out _).mono ?_;rintro e w1 ⟨rfl,hb1⟩;have HB1:=Lib.hid (HB.out.trans (hb1.mono HB.out.size));clear hb1)
        | (go_at_call_of 171 (Value.int .u8 o);refine (HO.out _).mono ?_;rintro e w2 ⟨rfl,hb2⟩;have HB2:=Lib.hid (HB1.out.trans (hb2.mono HB1.out.size));clear hb2))
       go_ret
       refine ⟨ret_bool ?_,HB2.out⟩
       simp [*]
 · have q1 : (k != 4) = true := by simpa using hk
   have HR:Hid (wrB o (.mk k p wd nm ks ps) b=false):=by
    show _=_
    unfold wrB wrR wrL
    show (bif b then (k==4&&decide (levelOf p≤levelOf o)) else (k==4&&decide (levelOf p<levelOf o)))=_
    rw [int_f hk];cases b <;> rfl
   rw [HR.out]
   clear HR HV hk
   go_enter Tryz.func132,Tryz.ntmps132
   go_wp2_with fail
   go_ret
   exact ⟨rfl,HB.out⟩
theorem nm_full {n:ByteArray} (h:n≠⟨#[]⟩):(n.data.toList==[])=false:=by
 refine beq_eq_false_iff_ne.2 fun e=>h ?_
 cases n with
 | mk d=>simp at e;rw [e]
theorem bt_f {n:ByteArray} (h:n≠⟨#[]⟩):(n.toList==([]:List UInt8))=false:=by
 rw [Lib.toList_data];exact nm_full h
theorem rE_1 {o wd:Int} {n:ByteArray} {ks:List Ex} {ps d:Int} (hd:d≤64):rE (.mk 1 o wd n ks ps) d=(decide (0≤wd)&&(o==0&&(n.data.toList==[]&&ks.isEmpty))):=by
 have h1:wdB 1 wd=decide (0≤wd):=by
  unfold wdB
  by_cases h:0≤wd
  · rw [decide_eq_true h];rfl
  · rw [decide_eq_false h,int_f (show wd≠0 by omega)];rfl
 simp only [rE,decide_eq_true hd,h1]
 show (true&&(decide (0≤wd)&&((n.data.toList==[])&&(o==0&&ks.isEmpty))))=_
 cases decide (0≤wd) <;> cases (n.data.toList==[]) <;> cases (o==0) <;> rfl
theorem rE_2 {o wd:Int} {n:ByteArray} {ks:List Ex} {ps d:Int} (hd:d≤64):rE (.mk 2 o wd n ks ps) d=(nameB n&&(o==0&&(wd==0&&ks.isEmpty))):=by
 simp only [rE,decide_eq_true hd]
 show (true&&(((false&&decide (0≤wd)) || wd==0)&&(nameB n&&(o==0&&ks.isEmpty))))=_
 rw [Bool.false_and,Bool.false_or,Bool.true_and]
 cases nameB n <;> cases (o==0) <;> cases (wd==0) <;> rfl
theorem rE_3 {o wd:Int} {n:ByteArray} {ks:List Ex} {ps d:Int} (hd:d≤64):rE (.mk 3 o wd n ks ps) d=(oneB o&&(wd==0&&(n.data.toList==[]&&kid1 ks (rEs ks) d))):=by
 simp only [rE,decide_eq_true hd]
 show (true&&(((false&&decide (0≤wd)) || wd==0)&&((n.data.toList==[])&&(oneB o&&kid1 ks (rEs ks) d))))=_
 rw [Bool.false_and,Bool.false_or,Bool.true_and]
 cases oneB o <;> cases (n.data.toList==[]) <;> cases (wd==0) <;> rfl
theorem rE_4 {o wd:Int} {n:ByteArray} {ks:List Ex} {ps d:Int} (hd:d≤64):rE (.mk 4 o wd n ks ps) d=(twoB o&&(wd==0&&(n.data.toList==[]&&kid2 o ks (rEs ks) d))):=by
 simp only [rE,decide_eq_true hd]
 show (true&&(((false&&decide (0≤wd)) || wd==0)&&((n.data.toList==[])&&(twoB o&&kid2 o ks (rEs ks) d))))=_
 rw [Bool.false_and,Bool.false_or,Bool.true_and]
 cases twoB o <;> cases (n.data.toList==[]) <;> cases (wd==0) <;> rfl
theorem rE_0 {k o wd:Int} {n:ByteArray} {ks:List Ex} {ps d:Int} (h1:k≠1) (h2:k≠2) (h3:k≠3) (h4:k≠4):rE (.mk k o wd n ks ps) d=false:=by
 have:kB k o ks (rEs ks) d=false:=by
  unfold kB
  rw [if_neg (by omega),if_neg h3,if_neg h4]
 simp only [rE,this,Bool.and_false]
theorem rE_toodeep {x:Ex} {d:Int} (h:¬ d≤64):rE x d=false:=by
 obtain ⟨k,o,wd,n,ks,ps⟩:=x
 simp only [rE,decide_eq_false h,Bool.false_and]
open Go.RowKit
set_option linter.unusedVariables false
theorem bcellD {W w1:World} (hb:Below W.heap.size W w1):∀ b o,b<W.heap.size→w1.cell? ⟨b,o,none⟩=W.cell? ⟨b,o,none⟩ :=
 fun b o h=>hb.cell (p:=⟨b,o,none⟩) h
def oneByteD (c:Int):ByteArray:=⟨#[UInt8.ofNat c.toNat]⟩
theorem conv1D (c:Int) (h0:0≤c) (h1:c≤255) (b:Nat) (w:World) (hc:w.cell? ⟨b,0,none⟩=some (.int .u8 c)) :
 (convert 46 9 (.slice (some ⟨b,0,none⟩) 1 1)).run Tryz.prog w=.ok (.string (oneByteD c)) w:=by
 have e:((UInt8.ofNat c.toNat).toNat:Int)=c:=by
  rw [UInt8.toNat_ofNat']
  omega
 have:=run_convert_bytes_back (P:=Tryz.prog) w 46 9 5 ⟨b,0,none⟩ 1 [UInt8.ofNat c.toNat] Tryz.underlying46 Tryz.underlying5 Tryz.underlying9 (fun j hj=>by
  have hj0:j=0:=by simpa using hj
  subst hj0
  show w.cell? ⟨b,0,none⟩=some (.int .u8 ((UInt8.ofNat c.toNat).toNat:Int))
  rw [hc,e])
 exact this
theorem digits_smallD (n:Int) (h0:0≤n) (h:n<10) (w:World):Calls Tryz.prog 93 #[.int .u64 n] w fun e w'=>e=.returned (.string (oneByteD (48+n)))∧Below w.heap.size w w':=by
 have hk:=conv1D (48+n) (by omega) (by omega)
 go_enter Tryz.func93,Tryz.ntmps93
 go_wp2
 go_ret
 exact ⟨rfl,(Below.refl _ _).alloc (Nat.le_refl _) _⟩
theorem end1D {w w1:World} {o:Obj} (hb:Below w.drew.heap.size w.drew w1):Below w.heap.size w (w1.alloc o) :=
 (show Below w.heap.size w w1 from ⟨hb.os,hb.tape,hb.output,hb.size,hb.block⟩).alloc hb.size _
theorem end2D {w w1:World} {o:Obj} (hb:Below (w.alloc o).drew.heap.size (w.alloc o).drew w1):Below w.heap.size w w1:=by
 have h1:Below (w.alloc o).heap.size (w.alloc o) w1:=⟨hb.os,hb.tape,hb.output,hb.size,hb.block⟩
 have h2:Below w.heap.size w (w.alloc o):=(Below.refl _ _).alloc (Nat.le_refl _) _
 exact h2.trans (h1.mono h2.size)
theorem digits_greatD (n:Int) (h:10≤n) (h1:n≤18446744073709551615) (w:World) (v:ByteArray) (hvs:v.size≤100)
 (ih:∀ W:World,Calls Tryz.prog 93 #[.int .u64 (n / 10)] W fun e w'=>e=.returned (.string v)∧Below W.heap.size W w') :
 Calls Tryz.prog 93 #[.int .u64 n] w fun e w'=>e=.returned (.string (v++oneByteD (48+n % 10)))∧Below w.heap.size w w':=by
 have H:=Lib.hid ih
 clear ih
 have hos:(oneByteD (48+n % 10)).size≤1:=Nat.le_refl 1
 have hk:=conv1D (48+n % 10) (by omega) (by omega)
 have e1:IntKind.u64.wrap (48+n % 10)=48+n % 10:=IntWalk.u64_in _ (by omega)
 have e2:IntKind.u8.wrap (48+n % 10)=48+n % 10:=IntWalk.u8_in _ (by omega)
 have e3:n.tmod 10=n % 10:=Int.tmod_eq_emod_of_nonneg (by omega)
 have e4:IntKind.u64.wrap (n.tdiv 10)=n / 10:=IntWalk.u64_quo _ _ (by omega)
 go_enter Tryz.func93,Tryz.ntmps93
 go_wp2_with fail
 go_region_with (go_at_call 93;refine (H.out _).mono ?_;rintro e w1 ⟨rfl,hb⟩;have hc:=bcellD hb)
 all_goals
  go_wp2
  go_ret
  refine ⟨rfl,?_⟩
  first | exact end1D hb | exact end2D hb
theorem dec_lastD (n:Nat) (h:10≤n):Lib.decDigits n=Lib.decDigits (n / 10)++[UInt8.ofNat (48+n % 10)]:=by
 rw [Lib.decDigits,dif_neg (by omega)]
theorem dec_lenD:∀ (k n:Nat),n<10 ^ (k+1)→(Lib.decDigits n).length≤k+1
 | k, n, h => by
   by_cases h10:n<10
   · rw [Lib.decDigits_one h10];simp
   · cases k with
     | zero=>simp at h;omega
     | succ k =>
       rw [dec_lastD n (by omega),List.length_append]
       have:=dec_lenD k (n / 10) (by rw [Nat.pow_succ] at h;omega)
       simp;omega
theorem digits_natD:∀ (m n:Nat),n≤m→n≤18446744073709551615→∀ w:World,Calls Tryz.prog 93 #[.int .u64 (n:Int)] w fun e w'=>e=.returned (.string ⟨(Lib.decDigits n).toArray⟩)∧Below w.heap.size w w'
 | 0, n, hm, h1, w => by
   obtain rfl:n=0:=by omega
   have k:=digits_smallD 0 (by decide) (by decide) w
   rw [Lib.decDigits_one (by decide)]
   exact k
 | m + 1, n, hm, h1, w => by
   by_cases h10:n<10
   · have k := digits_smallD (n : Int) (by omega) (by omega) w
     rw [Lib.decDigits_one h10]
     have e:oneByteD (48+(n:Int))=⟨[UInt8.ofNat (48+n)].toArray⟩:=by
      unfold oneByteD
      rw [show (48+(n:Int)).toNat=48+n by omega]
     rw [e] at k
     exact k
   · have ih := digits_natD m (n / 10) (by omega) (by omega)
     have hl:(Lib.decDigits (n / 10)).length≤20:=dec_lenD 19 (n / 10) (by
      have:(10:Nat) ^ 20=100000000000000000000:=by decide
      rw [this];omega)
     have k:=digits_greatD (n:Int) (by omega) (by omega) w ⟨(Lib.decDigits (n / 10)).toArray⟩ (by
      show ((Lib.decDigits (n / 10)).toArray).size≤100
      simp;omega) (fun W=>by
      have:=ih W
      rw [Int.natCast_ediv] at this
      exact this)
     have e:(ByteArray.mk (Lib.decDigits (n / 10)).toArray)++oneByteD (48+(n:Int) % 10)=⟨(Lib.decDigits n).toArray⟩:=by
      rw [dec_lastD n (by omega)]
      unfold oneByteD
      rw [show (48+(n:Int) % 10).toNat=48+n % 10 by omega]
      apply ByteArray.ext
      simp [ByteArray.data_append]
     rw [e] at k
     exact k
theorem rprint_any (n:Int) (h0 : -9223372036854775808≤n) (h1:n≤9223372036854775807) (w:World) :
 Calls Tryz.prog 51 #[.int .i64 n] w fun e w'=>e=.returned (.string ⟨(Lib.itoa n).toArray⟩)∧Below w.heap.size w w':=by
 by_cases hn:0≤n
 · have H : Hid (∀ W : World, Calls Tryz.prog 93 #[.int .u64 n] W fun e w' => e = .returned (.string ⟨(Lib.itoa n).toArray⟩) ∧ Below W.heap.size W w') := fun W => by
    have k:=digits_natD n.toNat n.toNat (Nat.le_refl _) (by omega) W
    rw [show ((n.toNat:Nat):Int)=n from Int.toNat_of_nonneg hn] at k
    have e:Lib.itoa n=Lib.decDigits n.toNat:=by unfold Lib.itoa;rw [if_neg (by omega)]
    rw [e]
    exact k
   obtain ⟨s,hs⟩:∃ s:ByteArray,s=⟨(Lib.itoa n).toArray⟩:=⟨_,rfl⟩
   rw [← hs] at H ⊢
   clear hs
   go_enter Tryz.func51,Tryz.ntmps51
   go_wp2_with (go_at_call 93;refine (H.out _).mono ?_;rintro e w1 ⟨rfl,hb⟩)
   go_ret
   exact ⟨rfl,hb⟩
 · have hl : (Lib.decDigits n.natAbs).length ≤ 20 := dec_lenD 19 n.natAbs (by
    have:(10:Nat) ^ 20=100000000000000000000:=by decide
    rw [this];omega)
   obtain ⟨s,hs⟩:∃ s:ByteArray,s=⟨(Lib.decDigits n.natAbs).toArray⟩:=⟨_,rfl⟩
   have hsz:s.size≤100:=by
    rw [hs]
    show ((Lib.decDigits n.natAbs).toArray).size≤100
    simp;omega
   have H:Hid (∀ W:World,Calls Tryz.prog 93 #[.int .u64 (-n)] W fun e w'=>e=.returned (.string s)∧Below W.heap.size W w'):=fun W=>by
    have k:=digits_natD n.natAbs n.natAbs (Nat.le_refl _) (by omega) W
    rw [show ((n.natAbs:Nat):Int) = -n by omega,← hs] at k
    exact k
   have e:(ByteArray.mk (Lib.itoa n).toArray)=ByteArray.mk #[45]++s:=by
    rw [hs]
    unfold Lib.itoa
    rw [if_pos (by omega)]
    apply ByteArray.ext
    simp [ByteArray.data_append]
   rw [e]
   have e1:IntKind.u64.wrap n=n+18446744073709551616:=PlainAid.u64_neg (by omega) (by omega)
   have e2:IntKind.u64.wrap (0-(n+18446744073709551616)) = -n:=by rw [IntKind.wrap_u64];omega
   have e3:IntKind.u64.wrap (-(n+18446744073709551616)) = -n:=by rw [IntKind.wrap_u64];omega
   clear hs e hl
   go_enter Tryz.func51,Tryz.ntmps51
   go_wp2_with (go_at_call 93;refine (H.out _).mono ?_;rintro e w1 ⟨rfl,hb⟩)
   go_ret
   exact ⟨rfl,hb⟩
end Go.Proofs.YtieeaehabjjaoaaGreatDoor

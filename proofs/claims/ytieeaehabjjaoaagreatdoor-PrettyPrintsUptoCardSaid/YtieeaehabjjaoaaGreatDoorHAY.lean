/- The proof, part 25: texts that belong together, in one. -/
import Derived.Test.YtieeaehabjjaoaaGreatDoorHAX
import Derived.Test.YtieeaehabjjaoaaGreatDoorHAN
set_option maxRecDepth 100000
set_option maxHeartbeats 20000000
namespace Go.Proofs.YtieeaehabjjaoaaGreatDoor
open Go.RowKit
set_option linter.unusedVariables false
set_option maxRecDepth 100000
theorem nu_S:Nu8 66:=fun cs=>by
 rintro ⟨c,f,h⟩
 cases h
def UrS (x:St):Prop:=∀ dd:Nat,dd≤64→rS x dd=true→okS x→rgS x→∀ (v:Value) (a3 a4 a5:Option Addr) (c3 c4 c5:Nat) (w0 w:World) (b:Nat) (txt:List UInt8),v=.agg (stCells x a3 c3 a4 c4 a5 c5).toArray→exsAt (fun _=>True) w0 x.e a3→stsAt (fun _=>True) w0 x.body a4→stsAt (fun _=>True) w0 x.els a5 →
 b=w0.heap.size→Below b w0 w→Ux b txt w→Calls Tryz.prog 52 #[.pointer (some ⟨b,0,none⟩),v,.int .i64 (dd:Int)] w (UPut b txt (tS x dd) w)
def UrB (l:List St):Prop:=∀ dd:Nat,rB l dd=true→okSs l→l.length≤9223372036854775807→rgSs l→∀ (a:Option Addr) (c:Nat) (w0 w:World) (b:Nat) (txt:List UInt8),stsAt (fun _=>True) w0 l a →
 b=w0.heap.size→Below b w0 w→Ux b txt w→Calls Tryz.prog 24 #[.pointer (some ⟨b,0,none⟩),.slice a l.length c,.int .i64 (dd:Int)] w (UPut b txt (tSs l dd) w)
def Uv (w0 w:World) (b:Nat) (t:List UInt8) (W:World):Prop:=Ux b t W∧Below b w0 W∧Keep (selW b) w W∧Below b w W
section
variable {w0 w W W':World} {b:Nat} {t:List UInt8}
theorem uv_put (h:Uv w0 w b t W) {u:List UInt8} {e:Ending} (hp:UPut b t u W e W'):e=.returned (.tuple #[])∧Uv w0 w b (t++u) W' :=
 ⟨hp.1,hp.2.1,h.2.1.trans hp.2.2.2,h.2.2.1.trans hp.2.2.1,h.2.2.2.trans hp.2.2.2⟩
theorem uv_below (h:Uv w0 w b t W) (hb:Below W.heap.size W W'):Uv w0 w b t W':=by
 obtain ⟨h2,h3,h4,h5⟩:=h
 have hb':Below b W W':=hb.mono (Nat.le_of_lt h2.lt)
 exact ⟨h2.below hb,h3.trans hb',h4.trans (keep_below hb),h5.trans hb'⟩
theorem uv_done {u:List UInt8} (h:Uv w0 w b (t++u) W):UPut b t u w (.returned (.tuple #[])) W:=⟨rfl,h.1,h.2.2.1,h.2.2.2⟩
theorem uv_new (h:Ux b t w) (hb:Below b w0 w):Uv w0 w b t w:=⟨h,hb,Keep.refl _ _,Below.refl _ _⟩
theorem uv_putc (h:Uv w0 w b t W) (s:ByteArray) (hs:s.size≤140737488289792):Calls Tryz.prog 23 #[.pointer (some ⟨b,0,none⟩),.string s] W fun e W'=>e=.returned (.tuple #[])∧Uv w0 w b (t++s.data.toList) W':=(u_put0 h.1 s hs).mono fun _ _ hp=>uv_put h hp
theorem uv_over {v:Value} (h:UxB b t v W) (u:List UInt8):Ux b (t++u) W:=⟨v,.inr ⟨h.1,by rw [List.length_append];have:=h.2;omega⟩⟩
end
theorem u_block0 {l:List St} (HI:∀ x∈l,UrS x):UrB l:=by
 intro dd hr hok hlen hrg a c w0 w b txt h1 hb0 hbw hw
 unfold rB at hr
 simp only [Bool.and_eq_true,decide_eq_true_eq] at hr
 have hdd:dd≤64:=by omega
 have HDD:=Lib.hid hdd
 have HI:=Lib.hid HI
 have HO:=Lib.hid hok
 have HRG:=Lib.hid hrg
 have HRA:=Lib.hid hr.2
 have E1:=Lib.hid h1
 have HB0:=Lib.hid hb0
 obtain ⟨n,hn⟩:∃ n,n=l.length:=⟨_,rfl⟩
 rw [← hn] at hlen ⊢
 have HN:=Lib.hid hn
 have HV:=Lib.hid (uv_new hw hbw)
 obtain ⟨di,hdi⟩:∃ z:Int,z=(dd:Int):=⟨_,rfl⟩
 rw [← hdi]
 have HDI:=Lib.hid hdi
 clear hr hdd hok hrg h1 hb0 hbw hw hn hdi
 go_enter Tryz.func24,Tryz.ntmps24
 go_wp2_with fail
 go_loopg [6] (n+1) (fun m' u W=>∃ i:Nat,u=.int .i64 (i:Int)∧i≤n∧m'=n-i+1∧Uv w0 w b (txt++tSs (l.take i) dd) W)
 case atStart=>exact ⟨0,rfl,Nat.zero_le _,by omega,by rw [List.take_zero];simpa [tSs] using HV.out⟩
 case round =>
  clear HV
  obtain ⟨i,rfl,hi,hm,hx⟩:=hrel
  have HM:=Lib.hid hm
  have HX:=Lib.hid hx
  clear hm hx
  obtain ⟨vb,hx | hx⟩:=HX.out.1
  · have b1 : wr.cell? ⟨b, 1, none⟩ = some (.bool false) := by rw [cell_of_row _ _ 1 _ _ _ hx.1]; rfl
    clear hx
    by_cases hin:i<n
    · have il : i < l.length := by have := HN.out; omega
      have g1:l[i]? = some l[i]:=List.getElem?_eq_getElem il
      have hmem:l[i]∈l:=List.getElem_mem il
      have htk:l.take (i+1)=l.take i++[l[i]]:=by rw [List.take_succ_eq_append_getElem il]
      generalize l[i]=x at g1 hmem htk
      have hin':(i:Int)<(n:Int):=by omega
      rcases E1.out with e | ⟨g,q,e,_,e1⟩
      · cases l with
        | nil=>simp at il
        | cons=>cases e
      obtain rfl:a=some ⟨g,q,none⟩:=e
      have x1:=stsIn_get i x e1 g1
      obtain ⟨k,nm,ot,es,bo,el,ps⟩:=x
      obtain ⟨f0,f1,f2,⟨a3,c3,f3,w3⟩,⟨a4,c4,f4,w4⟩,⟨a5,c5,f5,w5⟩,f6⟩:=x1
      have lg:=lt_of_at f0
      simp only at lg
      rw [← HB0.out] at lg
      have hrs:=rAll_get HRA.out hmem
      have HCX:Hid (∀ t W,Uv w0 w b t W→Calls Tryz.prog 52 #[.pointer (some ⟨b,0,none⟩),.agg #[.int .u8 k,.string nm,.string ot,.slice a3 es.length c3,.slice a4 bo.length c4,.slice a5 el.length c5,.int .i64 ps],.int .i64 di] W fun e W'=>e=.returned (.tuple #[])∧Uv w0 w b (t++tS (.mk k nm ot es bo el ps) dd) W'):=fun t W h=>by
       rw [HDI.out]
       exact (HI.out _ hmem dd HDD.out hrs (okSs_mem HO.out _ hmem) (rgSs_mem HRG.out _ hmem) _ a3 a4 a5 c3 c4 c5 w0 W b t rfl w3 w4 w5 HB0.out h.2.1 h.1).mono fun _ _ hp=>uv_put h hp
      have BX:=HX.out.2.1
      have f0:wr.cell? ⟨g,q+i*7,none⟩=some (.int .u8 k):=(BX.cell (p:=⟨g,q+i*7,none⟩) lg).trans f0
      have f1:wr.cell? ⟨g,q+i*7+1,none⟩=some (.string nm):=(BX.cell (p:=⟨g,q+i*7+1,none⟩) lg).trans f1
      have f2:wr.cell? ⟨g,q+i*7+2,none⟩=some (.string ot):=(BX.cell (p:=⟨g,q+i*7+2,none⟩) lg).trans f2
      have f3:wr.cell? ⟨g,q+i*7+3,none⟩=some (.slice a3 es.length c3):=(BX.cell (p:=⟨g,q+i*7+3,none⟩) lg).trans f3
      have f4:wr.cell? ⟨g,q+i*7+4,none⟩=some (.slice a4 bo.length c4):=(BX.cell (p:=⟨g,q+i*7+4,none⟩) lg).trans f4
      have f5:wr.cell? ⟨g,q+i*7+5,none⟩=some (.slice a5 el.length c5):=(BX.cell (p:=⟨g,q+i*7+5,none⟩) lg).trans f5
      have f6:wr.cell? ⟨g,q+i*7+6,none⟩=some (.int .i64 ps):=(BX.cell (p:=⟨g,q+i*7+6,none⟩) lg).trans f6
      have HTK:Hid (tSs (l.take (i+1)) dd=tSs (l.take i) dd++tS (.mk k nm ot es bo el ps) dd):=by rw [Hid,htk,tSs_append];simp only [tSs,List.append_nil]
      generalize tS (.mk k nm ot es bo el ps) dd=tx at HCX HTK
      generalize es.length=n3 at HCX f3
      generalize bo.length=n4 at HCX f4
      generalize el.length=n5 at HCX f5
      clear g1 hmem htk e1 il BX w3 w4 w5 lg hrs
      go_wp2_with fail
      go_at_call 52
      refine (HCX.out _ _ HX.out).mono ?_
      rintro e w9 ⟨rfl,hx9⟩
      have HX9:Hid (Uv w0 w b (txt++tSs (l.take (i+1)) dd) w9):=by
       rw [Hid,HTK.out,← List.append_assoc]
       exact hx9
      clear hx9 f0 f1 f2 f3 f4 f5 f6 b1
      go_wp2_with fail
      go_roundg (n-(i+1)+1)
      case measure=>have:=HM.out;omega
      case rel=>exact ⟨i+1,by simp,by omega,by omega,HX9.out⟩
    · have hin2 : i = n := by omega
      subst hin2
      have HF:Hid (UPut b txt (tSs l dd) w (.returned (.tuple #[])) wr):=uv_done (by
       have:=HX.out
       rwa [show l.take i=l by rw [HN.out,List.take_length]] at this)
      go_wp2_with fail
      exact bodyPost_end (results_none rfl _ _ _) rfl HF.out
  · have b1 : wr.cell? ⟨b, 1, none⟩ = some (.bool true) := by rw [cell_of_row _ _ 1 _ _ _ hx.1]; rfl
    have HF:Hid (UPut b txt (tSs l dd) w (.returned (.tuple #[])) wr):=by
     have h:=uv_over hx (tSs (l.drop i) dd)
     rw [List.append_assoc,← tSs_append,List.take_append_drop] at h
     exact ⟨rfl,h,HX.out.2.2.1,HX.out.2.2.2⟩
    clear hx
    by_cases hin:i<n
    · have hin' : (i : Int) < (n : Int) := by omega
      go_wp2_with fail
      exact bodyPost_end (results_none rfl _ _ _) rfl HF.out
    · have hin2 : i = n := by omega
      subst hin2
      go_wp2_with fail
      exact bodyPost_end (results_none rfl _ _ _) rfl HF.out
end Go.Proofs.YtieeaehabjjaoaaGreatDoor

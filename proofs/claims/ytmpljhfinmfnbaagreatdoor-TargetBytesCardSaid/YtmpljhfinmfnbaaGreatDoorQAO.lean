/- The proof, part 15: texts that belong together, in one. -/
import Derived.Test.YtmpljhfinmfnbaaGreatDoorQAN
import Derived.PlainAid
set_option maxRecDepth 100000
set_option maxHeartbeats 20000000
namespace Go.Proofs.YtmpljhfinmfnbaaGreatDoor
open Go.RowKit
def bit (b:Bool):Int:=if b then 1 else 0
theorem bit_t:bit true=1:=rfl
theorem bit_f:bit false=0:=rfl
set_option linter.unusedVariables false
theorem at_any (b:Nat) (bl:Bool) (m s d:Int) (w:World) (hr:Rd w b bl m s d) (h0:0≤d) (h1:d≤4611686018427387904) :
 Calls Tryz.prog 222 #[.pointer (some ⟨b,0,none⟩)] w fun e w'=>e=.returned (.int .i64 (d+bit bl))∧w=w':=by
 obtain ⟨⟨c0,c1,c2,c3⟩,f2,f3⟩:=hr.cells
 clear hr
 cases bl
 · rw [bit_f, Int.add_zero]
   go_enter Tryz.func222,Tryz.ntmps222
   go_wp2
   go_ret
   exact ⟨rfl,rfl⟩
 · rw [bit_t]
   go_enter Tryz.func222,Tryz.ntmps222
   go_wp2
   go_ret
   exact ⟨rfl,rfl⟩
def signed (bl:Bool) (s:Int):Int:=if bl then wrap64 (-(wrap64 s)) else wrap64 s
theorem word_any (b:Nat) (bl:Bool) (m s d:Int) (w:World) (hr:Rd w b bl m s d) :
 Calls Tryz.prog 223 #[.pointer (some ⟨b,0,none⟩)] w fun e w'=>e=.returned (.int .i64 (signed bl s))∧w=w':=by
 obtain ⟨⟨c0,c1,c2,c3⟩,f2,f3⟩:=hr.cells
 clear hr
 cases bl
 · go_enter Tryz.func223, Tryz.ntmps223
   go_wp2
   go_ret
   exact ⟨rfl,rfl⟩
 · go_enter Tryz.func223, Tryz.ntmps223
   go_wp2
   go_ret
   exact ⟨rfl,rfl⟩
instance (bl:Bool) (m s d c:Int):Decidable (Halts bl m s d c):=inferInstanceAs (Decidable (_∨_))
def scanN (bl:Bool) (m:Int):List UInt8→Int→Int→Int × Int × Bool
 | [],s,d=>(s,d,true)
 | c::r,s,d=>if Halts bl m s d (c.toNat:Int) then (s,d,false) else scanN bl m r (s*10+((c.toNat:Int)-48)) (d+1)
def told (bl:Bool) (x:Int × Int × Bool):Int × Int × Int:=if x.2.2=true∧x.2.1≠0 then (signed bl x.1,0,0) else (0,10,x.2.1+bit bl)
def parseP (l:List UInt8):Int × Int × Int:=match l with
 | 45::r=>told true (scanN true 9223372036854775808 r 0 0)
 | r=>told false (scanN false 9223372036854775807 r 0 0)
theorem drop_at (T:ByteArray) (k:Nat) (h:k<T.size):T.data.toList.drop k=T[k]::T.data.toList.drop (k+1):=by
 rw [List.drop_eq_getElem_cons (by simpa using h)];rfl
def ParsePost (x:Int × Int × Int) (w:World) (e:Ending) (w':World):Prop:=e=.returned (.tuple #[.int .i64 x.1,.int .i64 x.2.1,.int .i64 x.2.2])∧Below w.heap.size w w'
theorem told_no {bl:Bool} {x:Int × Int × Bool} {a:Int} (h:x.2.2=false∨x.2.1=0) (ha:a=x.2.1+bit bl):told bl x=(0,10,a):=by
 unfold told
 rw [if_neg (by rcases h with h | h <;> simp [h]),ha]
theorem told_yes {bl:Bool} {x:Int × Int × Bool} {a:Int} (h:x.2.2=true) (h1:x.2.1≠0) (ha:a=signed bl x.1):told bl x=(a,0,0):=by
 unfold told
 rw [if_pos ⟨h,h1⟩,ha]
theorem post_no {bl:Bool} {x:Int × Int × Bool} {a:Int} {w w':World} (h:x.2.2=false∨x.2.1=0) (ha:a=x.2.1+bit bl) (hb:Below w.heap.size w w') :
 ParsePost (told bl x) w (.returned (.tuple #[.int .i64 0,.int .i64 10,.int .i64 a])) w':=by
 rw [told_no h ha];exact ⟨rfl,hb⟩
theorem post_yes {bl:Bool} {x:Int × Int × Bool} {a:Int} {w w':World} (h:x.2.2=true) (h1:x.2.1≠0) (ha:a=signed bl x.1) (hb:Below w.heap.size w w') :
 ParsePost (told bl x) w (.returned (.tuple #[.int .i64 a,.int .i64 0,.int .i64 0])) w':=by
 rw [told_yes h h1 ha];exact ⟨rfl,hb⟩
theorem scan_no {bl:Bool} {m s d c:Int} {u:UInt8} {r:List UInt8} (hu:(u.toNat:Int)=c) (h:Halts bl m s d c):scanN bl m (u::r) s d=(s,d,false):=by
 subst hu;simp only [scanN];rw [if_pos h]
theorem scan_yes {bl:Bool} {m s d c:Int} {u:UInt8} {r:List UInt8} (hu:(u.toNat:Int)=c) (h:¬ Halts bl m s d c):scanN bl m (u::r) s d=scanN bl m r (s*10+(c-48)) (d+1):=by
 subst hu;simp only [scanN];rw [if_neg h]
theorem parse_plain (s:ByteArray) (w:World) (hs:s.size≤4611686018427387904) (h0:0<s.size) (h45:¬ PlainAid.bt s 0=45) :
 Calls Tryz.prog 214 #[.string s] w (ParsePost (told false (scanN false 9223372036854775807 s.data.toList 0 0)) w):=by
 have hbs:=PlainAid.get_bt s
 have h45b:(PlainAid.bt s 0==45)=false:=by simpa using h45
 obtain ⟨T,HT⟩:∃ T,Hid (T=s):=⟨_,rfl⟩
 have hTs:T.size≤4611686018427387904:=by rw [HT.out];exact hs
 go_enter Tryz.func214,Tryz.ntmps214
 go_wp2_with fail
 rw [← HT.out]
 have hTn:s.size=T.size:=by rw [HT.out]
 try rw [hTn]
 clear hTn hs h0 h45 hbs h45b
 have hbt:=PlainAid.get_bt T
 go_loopw [21] (fun i wr=>∃ (k:Nat) (sz:Int),k≤T.size∧i=.int .i64 k∧Rd wr w.heap.size false 9223372036854775807 sz k∧0≤sz∧sz≤9223372036854775807∧Hid (scanN false 9223372036854775807 (T.data.toList.drop k) sz k=scanN false 9223372036854775807 T.data.toList 0 0)∧Below w.heap.size w wr) (fun i _=>T.size-(intOf i).toNat)
 case atStart =>
  exact ⟨0,0,Nat.zero_le _,rfl,heap_alloc_new _ _,by decide,by decide,rfl,(Below.refl _ _).alloc (Nat.le_refl _) _⟩
 case round =>
  obtain ⟨k,sz,hk,rfl,hr,hz0,hz1,hsc,hB⟩:=hrel
  have hx0:=PlainAid.bt_nonneg T k
  have hx1:=PlainAid.bt_le T k
  by_cases hlt:k<T.size
  · have hu : ((T[k]).toNat : Int) = PlainAid.bt T k := PlainAid.get_bt T k hlt
    have hdr:=drop_at T k hlt
    by_cases hh:Halts false 9223372036854775807 sz k (PlainAid.bt T k)
    · have hend : Hid (scanN false 9223372036854775807 T.data.toList 0 0 = (sz, (k : Int), false)) := by rw [Hid, ← hsc.out, hdr, scan_no hu hh]
      have H:=Lib.hid (take_no w.heap.size false 9223372036854775807 sz k (PlainAid.bt T k) wr hr hx0 hx1 (by decide) (by decide) hz0 (by omega) (by omega) hh)
      clear hu hdr hsc hh
      go_wp2_with (first | (go_at_call 221;refine (H.out).mono ?_;rintro e w1 ⟨rfl,hr1,hb1,hz1⟩) | (go_at_call 222;refine (at_any w.heap.size false 9223372036854775807 sz k _ hr1 (by omega) (by omega)).mono ?_;rintro e w' ⟨rfl,rfl⟩))
      go_ret3
      try rw [← HT.out]
      exact post_no (.inl (by rw [hend.out])) (by rw [hend.out]) (hB.trans hb1)
    · have hnext : Hid (scanN false 9223372036854775807 (T.data.toList.drop (k + 1)) (sz * 10 + (PlainAid.bt T k - 48)) ((k : Int) + 1) = scanN false 9223372036854775807 T.data.toList 0 0) := by rw [Hid, ← hsc.out, hdr, scan_yes hu hh]
      have hm:sz*10+(PlainAid.bt T k-48)≤9223372036854775807∧0≤sz*10+(PlainAid.bt T k-48):=by
       have a1:¬ ((9223372036854775807:Int)-(PlainAid.bt T k-48)) / 10<sz:=fun hx=>hh (.inr (.inr (.inr (.inr hx))))
       have a2:¬ PlainAid.bt T k<48:=fun hx=>hh (.inl hx)
       omega
      have H:=Lib.hid (take_yes w.heap.size false 9223372036854775807 sz k (PlainAid.bt T k) wr hr hx0 hx1 (by decide) (by decide) hz0 (by omega) (by omega) hh)
      have HM:=Lib.hid hm
      clear hu hdr hsc hh hm
      go_wp2_with (go_at_call 221;refine (H.out).mono ?_;rintro e w1 ⟨rfl,hr1,hb1,hz1⟩)
      go_roundw
      case rel=>exact ⟨k+1,sz*10+(PlainAid.bt T k-48),by omega,by go_num,by rw [Int.natCast_add];exact hr1,HM.out.2,HM.out.1,by rw [Int.natCast_add];exact hnext,hB.trans hb1⟩
      case measure=>simp [intOf];omega
  · have hend : Hid (scanN false 9223372036854775807 T.data.toList 0 0 = (sz, (k : Int), true)) := by
     rw [Hid,← hsc.out,List.drop_of_length_le (by simp;omega)];rfl
    clear hsc hx0 hx1
    by_cases hn0:k=0
    · subst hn0
      have hr':Rd wr w.heap.size false 9223372036854775807 sz 0:=hr
      clear hr
      obtain ⟨⟨c0,c1,c2,c3⟩,f2,f3⟩:=hr'.cells
      go_wp2_with (go_at_call 222;refine (at_any w.heap.size false 9223372036854775807 sz 0 _ hr' (by omega) (by omega)).mono ?_;rintro e w' ⟨rfl,rfl⟩)
      go_ret3
      try rw [← HT.out]
      exact post_no (.inr (by rw [hend.out];rfl)) (by rw [hend.out];rfl) hB
    · obtain ⟨⟨c0, c1, c2, c3⟩, f2, f3⟩ := hr.cells
      have hn0b:((k:Int)==0)=false:=by simpa using hn0
      go_wp2_with (go_at_call 223;refine (word_any w.heap.size false 9223372036854775807 sz k _ hr).mono ?_;rintro e w' ⟨rfl,rfl⟩)
      go_ret3
      try rw [← HT.out]
      exact post_yes (by rw [hend.out]) (by rw [hend.out];simpa using hn0) (by rw [hend.out]) hB
theorem parse_below (s:ByteArray) (w:World) (hs:s.size≤4611686018427387904) (h0:0<s.size) (h45:PlainAid.bt s 0=45) :
 Calls Tryz.prog 214 #[.string s] w (ParsePost (told true (scanN true 9223372036854775808 (s.extract 1 s.size).data.toList 0 0)) w):=by
 have hbs:=PlainAid.get_bt s
 have h45b:(PlainAid.bt s 0==45)=true:=by simpa using h45
 clear h45
 obtain ⟨T,HT⟩:∃ T,Hid (T=(s.extract 1 s.size)):=⟨_,rfl⟩
 have hTs:T.size≤4611686018427387904:=by rw [HT.out];simp;omega
 go_enter Tryz.func214,Tryz.ntmps214
 go_wp2_with fail
 rw [← HT.out]
 have hTn:s.size-1=T.size:=by rw [HT.out];simp
 try rw [hTn]
 clear hTn hs h0 hbs h45b
 have hbt:=PlainAid.get_bt T
 go_loopw [21] (fun i wr=>∃ (k:Nat) (sz:Int),k≤T.size∧i=.int .i64 k∧Rd wr w.heap.size true 9223372036854775808 sz k∧0≤sz∧sz≤9223372036854775808∧Hid (scanN true 9223372036854775808 (T.data.toList.drop k) sz k=scanN true 9223372036854775808 T.data.toList 0 0)∧Below w.heap.size w wr) (fun i _=>T.size-(intOf i).toNat)
 case atStart =>
  exact ⟨0,0,Nat.zero_le _,rfl,heap_alloc_new _ _,by decide,by decide,rfl,(Below.refl _ _).alloc (Nat.le_refl _) _⟩
 case round =>
  obtain ⟨k,sz,hk,rfl,hr,hz0,hz1,hsc,hB⟩:=hrel
  have hx0:=PlainAid.bt_nonneg T k
  have hx1:=PlainAid.bt_le T k
  by_cases hlt:k<T.size
  · have hu : ((T[k]).toNat : Int) = PlainAid.bt T k := PlainAid.get_bt T k hlt
    have hdr:=drop_at T k hlt
    by_cases hh:Halts true 9223372036854775808 sz k (PlainAid.bt T k)
    · have hend : Hid (scanN true 9223372036854775808 T.data.toList 0 0 = (sz, (k : Int), false)) := by rw [Hid, ← hsc.out, hdr, scan_no hu hh]
      have H:=Lib.hid (take_no w.heap.size true 9223372036854775808 sz k (PlainAid.bt T k) wr hr hx0 hx1 (by decide) (by decide) hz0 (by omega) (by omega) hh)
      clear hu hdr hsc hh
      go_wp2_with (first | (go_at_call 221;refine (H.out).mono ?_;rintro e w1 ⟨rfl,hr1,hb1,hz1⟩) | (go_at_call 222;refine (at_any w.heap.size true 9223372036854775808 sz k _ hr1 (by omega) (by omega)).mono ?_;rintro e w' ⟨rfl,rfl⟩))
      go_ret3
      try rw [← HT.out]
      exact post_no (.inl (by rw [hend.out])) (by rw [hend.out]) (hB.trans hb1)
    · have hnext : Hid (scanN true 9223372036854775808 (T.data.toList.drop (k + 1)) (sz * 10 + (PlainAid.bt T k - 48)) ((k : Int) + 1) = scanN true 9223372036854775808 T.data.toList 0 0) := by rw [Hid, ← hsc.out, hdr, scan_yes hu hh]
      have hm:sz*10+(PlainAid.bt T k-48)≤9223372036854775808∧0≤sz*10+(PlainAid.bt T k-48):=by
       have a1:¬ ((9223372036854775808:Int)-(PlainAid.bt T k-48)) / 10<sz:=fun hx=>hh (.inr (.inr (.inr (.inr hx))))
       have a2:¬ PlainAid.bt T k<48:=fun hx=>hh (.inl hx)
       omega
      have H:=Lib.hid (take_yes w.heap.size true 9223372036854775808 sz k (PlainAid.bt T k) wr hr hx0 hx1 (by decide) (by decide) hz0 (by omega) (by omega) hh)
      have HM:=Lib.hid hm
      clear hu hdr hsc hh hm
      go_wp2_with (go_at_call 221;refine (H.out).mono ?_;rintro e w1 ⟨rfl,hr1,hb1,hz1⟩)
      go_roundw
      case rel=>exact ⟨k+1,sz*10+(PlainAid.bt T k-48),by omega,by go_num,by rw [Int.natCast_add];exact hr1,HM.out.2,HM.out.1,by rw [Int.natCast_add];exact hnext,hB.trans hb1⟩
      case measure=>simp [intOf];omega
  · have hend : Hid (scanN true 9223372036854775808 T.data.toList 0 0 = (sz, (k : Int), true)) := by
     rw [Hid,← hsc.out,List.drop_of_length_le (by simp;omega)];rfl
    clear hsc hx0 hx1
    by_cases hn0:k=0
    · subst hn0
      have hr':Rd wr w.heap.size true 9223372036854775808 sz 0:=hr
      clear hr
      obtain ⟨⟨c0,c1,c2,c3⟩,f2,f3⟩:=hr'.cells
      go_wp2_with (go_at_call 222;refine (at_any w.heap.size true 9223372036854775808 sz 0 _ hr' (by omega) (by omega)).mono ?_;rintro e w' ⟨rfl,rfl⟩)
      go_ret3
      try rw [← HT.out]
      exact post_no (.inr (by rw [hend.out];rfl)) (by rw [hend.out];rfl) hB
    · obtain ⟨⟨c0, c1, c2, c3⟩, f2, f3⟩ := hr.cells
      have hn0b:((k:Int)==0)=false:=by simpa using hn0
      go_wp2_with (go_at_call 223;refine (word_any w.heap.size true 9223372036854775808 sz k _ hr).mono ?_;rintro e w' ⟨rfl,rfl⟩)
      go_ret3
      try rw [← HT.out]
      exact post_yes (by rw [hend.out]) (by rw [hend.out];simpa using hn0) (by rw [hend.out]) hB
theorem parse_none (s:ByteArray) (w:World) (hs:s.size≤4611686018427387904) (h0:¬ 0<s.size) :
 Calls Tryz.prog 214 #[.string s] w (ParsePost (told false (scanN false 9223372036854775807 s.data.toList 0 0)) w):=by
 obtain ⟨T,HT⟩:∃ T,Hid (T=s):=⟨_,rfl⟩
 have hTs:T.size≤4611686018427387904:=by rw [HT.out];exact hs
 go_enter Tryz.func214,Tryz.ntmps214
 go_wp2_with fail
 rw [← HT.out]
 have hTn:s.size=T.size:=by rw [HT.out]
 try rw [hTn]
 clear hTn hs h0
 have hbt:=PlainAid.get_bt T
 go_loopw [21] (fun i wr=>∃ (k:Nat) (sz:Int),k≤T.size∧i=.int .i64 k∧Rd wr w.heap.size false 9223372036854775807 sz k∧0≤sz∧sz≤9223372036854775807∧Hid (scanN false 9223372036854775807 (T.data.toList.drop k) sz k=scanN false 9223372036854775807 T.data.toList 0 0)∧Below w.heap.size w wr) (fun i _=>T.size-(intOf i).toNat)
 case atStart =>
  exact ⟨0,0,Nat.zero_le _,rfl,heap_alloc_new _ _,by decide,by decide,rfl,(Below.refl _ _).alloc (Nat.le_refl _) _⟩
 case round =>
  obtain ⟨k,sz,hk,rfl,hr,hz0,hz1,hsc,hB⟩:=hrel
  have hx0:=PlainAid.bt_nonneg T k
  have hx1:=PlainAid.bt_le T k
  by_cases hlt:k<T.size
  · have hu : ((T[k]).toNat : Int) = PlainAid.bt T k := PlainAid.get_bt T k hlt
    have hdr:=drop_at T k hlt
    by_cases hh:Halts false 9223372036854775807 sz k (PlainAid.bt T k)
    · have hend : Hid (scanN false 9223372036854775807 T.data.toList 0 0 = (sz, (k : Int), false)) := by rw [Hid, ← hsc.out, hdr, scan_no hu hh]
      have H:=Lib.hid (take_no w.heap.size false 9223372036854775807 sz k (PlainAid.bt T k) wr hr hx0 hx1 (by decide) (by decide) hz0 (by omega) (by omega) hh)
      clear hu hdr hsc hh
      go_wp2_with (first | (go_at_call 221;refine (H.out).mono ?_;rintro e w1 ⟨rfl,hr1,hb1,hz1⟩) | (go_at_call 222;refine (at_any w.heap.size false 9223372036854775807 sz k _ hr1 (by omega) (by omega)).mono ?_;rintro e w' ⟨rfl,rfl⟩))
      go_ret3
      try rw [← HT.out]
      exact post_no (.inl (by rw [hend.out])) (by rw [hend.out]) (hB.trans hb1)
    · have hnext : Hid (scanN false 9223372036854775807 (T.data.toList.drop (k + 1)) (sz * 10 + (PlainAid.bt T k - 48)) ((k : Int) + 1) = scanN false 9223372036854775807 T.data.toList 0 0) := by rw [Hid, ← hsc.out, hdr, scan_yes hu hh]
      have hm:sz*10+(PlainAid.bt T k-48)≤9223372036854775807∧0≤sz*10+(PlainAid.bt T k-48):=by
       have a1:¬ ((9223372036854775807:Int)-(PlainAid.bt T k-48)) / 10<sz:=fun hx=>hh (.inr (.inr (.inr (.inr hx))))
       have a2:¬ PlainAid.bt T k<48:=fun hx=>hh (.inl hx)
       omega
      have H:=Lib.hid (take_yes w.heap.size false 9223372036854775807 sz k (PlainAid.bt T k) wr hr hx0 hx1 (by decide) (by decide) hz0 (by omega) (by omega) hh)
      have HM:=Lib.hid hm
      clear hu hdr hsc hh hm
      go_wp2_with (go_at_call 221;refine (H.out).mono ?_;rintro e w1 ⟨rfl,hr1,hb1,hz1⟩)
      go_roundw
      case rel=>exact ⟨k+1,sz*10+(PlainAid.bt T k-48),by omega,by go_num,by rw [Int.natCast_add];exact hr1,HM.out.2,HM.out.1,by rw [Int.natCast_add];exact hnext,hB.trans hb1⟩
      case measure=>simp [intOf];omega
  · have hend : Hid (scanN false 9223372036854775807 T.data.toList 0 0 = (sz, (k : Int), true)) := by
     rw [Hid,← hsc.out,List.drop_of_length_le (by simp;omega)];rfl
    clear hsc hx0 hx1
    by_cases hn0:k=0
    · subst hn0
      have hr':Rd wr w.heap.size false 9223372036854775807 sz 0:=hr
      clear hr
      obtain ⟨⟨c0,c1,c2,c3⟩,f2,f3⟩:=hr'.cells
      go_wp2_with (go_at_call 222;refine (at_any w.heap.size false 9223372036854775807 sz 0 _ hr' (by omega) (by omega)).mono ?_;rintro e w' ⟨rfl,rfl⟩)
      go_ret3
      try rw [← HT.out]
      exact post_no (.inr (by rw [hend.out];rfl)) (by rw [hend.out];rfl) hB
    · obtain ⟨⟨c0, c1, c2, c3⟩, f2, f3⟩ := hr.cells
      have hn0b:((k:Int)==0)=false:=by simpa using hn0
      go_wp2_with (go_at_call 223;refine (word_any w.heap.size false 9223372036854775807 sz k _ hr).mono ?_;rintro e w' ⟨rfl,rfl⟩)
      go_ret3
      try rw [← HT.out]
      exact post_yes (by rw [hend.out]) (by rw [hend.out];simpa using hn0) (by rw [hend.out]) hB
theorem head_at (s:ByteArray) (h:0<s.size):∃ u r,s.data.toList=u::r∧(u.toNat:Int)=PlainAid.bt s 0∧r=(s.extract 1 s.size).data.toList:=by
 refine ⟨s[0],s.data.toList.drop 1,?_,PlainAid.get_bt s 0 h,?_⟩
 · have := drop_at s 0 h
   simpa using this
 · simp
   rw [List.take_of_length_le (by simp)]
theorem parse_any (s:ByteArray) (w:World) (hs:s.size≤4611686018427387904):Calls Tryz.prog 214 #[.string s] w (ParsePost (parseP s.data.toList) w):=by
 by_cases h0:0<s.size
 · obtain ⟨u, r, e, hu, hr⟩ := head_at s h0
   by_cases h:PlainAid.bt s 0=45
   · have h45 : u = 45 := by
      apply UInt8.toNat_inj.1
      have:(u.toNat:Int)=45:=by rw [hu];exact h
      show u.toNat=45
      omega
     subst h45
     have k:=parse_below s w hs h0 h
     rw [e]
     rw [← hr] at k
     exact k
   · have h45 : u ≠ 45 := fun hx => h (by rw [← hu, hx]; rfl)
     have k:=parse_plain s w hs h0 h
     have e2:parseP s.data.toList=told false (scanN false 9223372036854775807 s.data.toList 0 0):=by
      rw [e];unfold parseP;split
      · rename_i heq;simp only [List.cons.injEq] at heq;exact absurd heq.1 h45
      · rfl
     rw [e2]
     exact k
 · have k := parse_none s w hs h0
   have e:s.data.toList=[]:=by
    have h1:s.size=0:=by omega
    have h2:s.data.size=0:=h1
    exact List.length_eq_zero_iff.1 (by simpa using h2)
   have e2:parseP s.data.toList=told false (scanN false 9223372036854775807 s.data.toList 0 0):=by
    rw [e];rfl
   rw [e2]
   exact k
open Go.RowKit
set_option linter.unusedVariables false
set_option maxRecDepth 100000
structure Pst where
 rest:ByteArray
 more:Bool
 bad:Bool
def Pst.row (s:Pst):Array Value:=#[.string s.rest,.bool s.more,.bool s.bad]
def selP (p:Nat) (k:Nat) (o:Obj):Prop:=k≠p
structure Pq (w:World) (p:Nat) (s:Pst) (W:World):Prop where
 own:Own W p 256 s.row
 keep:Keep (selP p) w W
 bel:Below p w W
section
variable {w W W':World} {p:Nat} {s s':Pst}
theorem Pq.below (h:Pq w p s W) (hb:Below W.heap.size W W'):Pq w p s W':=⟨h.own.below hb,h.keep.trans (keep_below hb),h.bel.trans (hb.mono (Nat.le_of_lt h.own.lt))⟩
theorem pq_new (h:Own w p 256 s.row):Pq w p s w:=⟨h,Keep.refl _ _,Below.refl _ _⟩
theorem Pq.trans {w0:World} (h:Pq w0 p s w) (k:Pq w p s' W):Pq w0 p s' W:=⟨k.own,h.keep.trans k.keep,h.bel.trans k.bel⟩
theorem Pq.other (h:Pq w p s W) {g:Nat} {ty:TypeId} {row:Array Value} (ho:Own w g ty row) (hg:g≠p):Own W g ty row:=h.keep.block _ _ ho hg
theorem Pq.setBad (h:Pq w p s W):Pq w p { s with bad:=true } (W.setCell ⟨p,2,none⟩ (.bool true)) :=
 ⟨heap_setCell_same W p 2 _ _ _ h.own,h.keep.setCell (p:=⟨p,2,none⟩) _ h.own (fun hs=>hs rfl),h.bel.setCell (p:=⟨p,2,none⟩) (Nat.le_refl p) _⟩
theorem Pq.setCut (h:Pq w p s W) (r:ByteArray) (m:Bool):Pq w p ⟨r,m,s.bad⟩ ((W.setCell ⟨p,0,none⟩ (.string r)).setCell ⟨p,1,none⟩ (.bool m)):=by
 have o1:=heap_setCell_same W p 0 _ _ (.string r) h.own
 have k1:=h.keep.setCell (p:=⟨p,0,none⟩) (.string r) h.own (fun hs=>hs rfl)
 have b1:=h.bel.setCell (p:=⟨p,0,none⟩) (Nat.le_refl p) (.string r)
 exact ⟨heap_setCell_same _ p 1 _ _ _ o1,k1.setCell (p:=⟨p,1,none⟩) _ o1 (fun hs=>hs rfl),b1.setCell (p:=⟨p,1,none⟩) (Nat.le_refl p) _⟩
theorem Pq.cells (h:Pq w p s W):W.cell? ⟨p,0,none⟩=some (.string s.rest)∧W.cell? ⟨p,1,none⟩=some (.bool s.more)∧W.cell? ⟨p,2,none⟩=some (.bool s.bad)∧∀ j,W.frozen? ⟨p,j,none⟩=false :=
 ⟨by rw [cell_of_row _ _ 0 _ _ _ h.own];rfl,by rw [cell_of_row _ _ 1 _ _ _ h.own];rfl,by rw [cell_of_row _ _ 2 _ _ _ h.own];rfl,fun j=>own_frozen h.own j⟩
end
def nextS (s:Pst):ByteArray × Pst:=if s.more=true then ((cutA s.rest 32).1,⟨(cutA s.rest 32).2.1,(cutA s.rest 32).2.2,s.bad⟩) else (⟨#[]⟩,{ s with bad:=true })
def behS (c:UInt8) (s:Pst):ByteArray × Pst:=((preA (nextS s).1 c).1,if (preA (nextS s).1 c).2=true then (nextS s).2 else { (nextS s).2 with bad:=true })
def valS (t:ByteArray) (s:Pst):Int × Pst:=((parseP t.data.toList).1,if (parseP t.data.toList).2.1=0 then s else { s with bad:=true })
def sizS (t:ByteArray) (s:Pst):Int × Pst:=((valS t s).1,if (valS t s).1<0 then { (valS t s).2 with bad:=true } else (valS t s).2)
def numS' (s:Pst):Int × Pst:=sizS (nextS s).1 (nextS s).2
def regS' (s:Pst):Int × Pst:=sizS (behS 114 s).1 (behS 114 s).2
def wdS (s:Pst):Int × Pst:=valS (nextS s).1 (nextS s).2
def oriS (s:Pst):Int × Pst:=((sizS (behS 64 s).1 (behS 64 s).2).1,if (sizS (behS 64 s).1 (behS 64 s).2).1=0 then { (sizS (behS 64 s).1 (behS 64 s).2).2 with bad:=true } else (sizS (behS 64 s).1 (behS 64 s).2).2)
theorem p_next {w:World} {p:Nat} {s:Pst} (h:Own w p 256 s.row) (hs:s.rest.size≤4611686018427387904):Calls Tryz.prog 153 #[.pointer (some ⟨p,0,none⟩)] w fun e w'=>e=.returned (.string (nextS s).1)∧Pq w p (nextS s).2 w':=by
 have HQ:=Lib.hid (pq_new h)
 clear h
 obtain ⟨c0,c1,c2,fz⟩:=HQ.out.cells
 have f2:=fz 2
 have f0:=fz 0
 unfold nextS
 obtain ⟨rest,more,bad⟩:=s
 simp only at c0 c1 c2 hs ⊢
 cases more with
 | false =>
   simp only [Bool.false_eq_true,if_false]
   go_enter Tryz.func153,Tryz.ntmps153
   go_wp2
   go_ret
   exact ⟨rfl,HQ.out.setBad⟩
 | true =>
   simp only [if_true]
   have HC:Hid (∀ X,Calls Tryz.prog 124 #[.string rest,.string ⟨#[32]⟩] X fun e w'=>e=.returned (.tuple #[.string (cutA rest 32).1,.string (cutA rest 32).2.1,.bool (cutA rest 32).2.2])∧Below X.heap.size X w'):=fun X=>cut_any rest 32 hs X
   generalize cutA rest 32=r at HC ⊢
   obtain ⟨r1,r2,r3⟩:=r
   replace HC:Hid (∀ X,Calls Tryz.prog 124 #[.string rest,.string ⟨#[32]⟩] X fun e w'=>e=.returned (.tuple #[.string r1,.string r2,.bool r3])∧Below X.heap.size X w'):=HC.out
   clear fz
   go_enter Tryz.func153,Tryz.ntmps153
   go_wp2_with (go_at_call 124;refine (HC.out _).mono ?_;rintro e w2 ⟨rfl,hb⟩;have HQ2:=Lib.hid (HQ.out.below hb);obtain ⟨d0,d1,d2,dz⟩:=HQ2.out.cells;have g0:=dz 0;have g1:=dz 1)
   go_ret
   exact ⟨rfl,HQ2.out.setCut r2 r3⟩
theorem cut_size (s:ByteArray) (c:UInt8):(cutA s c).1.size≤s.size∧(cutA s c).2.1.size≤s.size:=by
 unfold cutA
 split
 · simp only [ByteArray.size_extract];omega
 · exact ⟨Nat.le_refl _,Nat.zero_le _⟩
theorem next_size (s:Pst):(nextS s).1.size≤s.rest.size∧(nextS s).2.rest.size≤s.rest.size:=by
 unfold nextS
 split
 · exact cut_size s.rest 32
 · exact ⟨Nat.zero_le _,Nat.le_refl _⟩
theorem beh_size (c:UInt8) (s:Pst):(behS c s).1.size≤s.rest.size∧(behS c s).2.rest.size≤s.rest.size:=by
 have h:=next_size s
 unfold behS
 constructor
 · show (preA (nextS s).1 c).1.size ≤ _
   unfold preA
   split
   · simp only [ByteArray.size_extract];omega
   · exact h.1
 · show (if _ then _ else _ : Pst).rest.size ≤ _
   split <;> exact h.2
theorem val_size (t:ByteArray) (s:Pst):(valS t s).2.rest.size=s.rest.size:=by
 unfold valS
 show (if _ then _ else _:Pst).rest.size=_
 split <;> rfl
theorem siz_size (t:ByteArray) (s:Pst):(sizS t s).2.rest.size=s.rest.size:=by
 unfold sizS
 show (if _ then _ else _:Pst).rest.size=_
 split <;> exact val_size t s
theorem p_value {w:World} {p:Nat} {s:Pst} (t:ByteArray) (ht:t.size≤4611686018427387904) (h:Own w p 256 s.row):Calls Tryz.prog 203 #[.pointer (some ⟨p,0,none⟩),.string t] w fun e w'=>e=.returned (.int .i64 (valS t s).1)∧Pq w p (valS t s).2 w':=by
 have HQ:=Lib.hid (pq_new h)
 have HP:Hid (∀ X,Calls Tryz.prog 214 #[.string t] X (ParsePost (parseP t.data.toList) X)):=fun X=>parse_any t X ht
 unfold valS
 generalize parseP t.data.toList=r at HP ⊢
 obtain ⟨r1,r2,r3⟩:=r
 replace HP:Hid (∀ X,Calls Tryz.prog 214 #[.string t] X fun e w'=>e=.returned (.tuple #[.int .i64 r1,.int .i64 r2,.int .i64 r3])∧Below X.heap.size X w'):=HP.out
 simp only
 clear h
 by_cases h2:r2=0
 · rw [if_pos h2]
   subst h2
   go_enter Tryz.func203,Tryz.ntmps203
   go_wp2_with (go_at_call 214;refine (HP.out _).mono ?_;rintro e w2 ⟨rfl,hb⟩;have HQ2:=Lib.hid (HQ.out.below hb))
   go_ret
   exact ⟨rfl,HQ2.out⟩
 · rw [if_neg h2]
   have q2:(r2 != 0)=true:=by simpa using h2
   go_enter Tryz.func203,Tryz.ntmps203
   go_wp2_with (go_at_call 214;refine (HP.out _).mono ?_;rintro e w2 ⟨rfl,hb⟩;have HQ2:=Lib.hid (HQ.out.below hb);obtain ⟨d0,d1,d2,dz⟩:=HQ2.out.cells;have g2:=dz 2)
   go_ret
   exact ⟨rfl,HQ2.out.setBad⟩
theorem told_range (bl:Bool) (x:Int × Int × Bool) : -9223372036854775808≤(told bl x).1∧(told bl x).1≤9223372036854775807:=by
 unfold told
 split
 · show -9223372036854775808 ≤ signed bl x.1 ∧ signed bl x.1 ≤ 9223372036854775807
   unfold signed
   split <;> unfold wrap64 <;> omega
 · simp
theorem parse_range (l:List UInt8) : -9223372036854775808≤(parseP l).1∧(parseP l).1≤9223372036854775807:=by
 unfold parseP
 split
 · exact told_range _ _
 · exact told_range _ _
theorem val_range (t:ByteArray) (s:Pst) : -9223372036854775808≤(valS t s).1∧(valS t s).1≤9223372036854775807:=parse_range _
theorem p_size {w:World} {p:Nat} {s:Pst} (t:ByteArray) (ht:t.size≤4611686018427387904) (h:Own w p 256 s.row):Calls Tryz.prog 202 #[.pointer (some ⟨p,0,none⟩),.string t] w fun e w'=>e=.returned (.int .i64 (sizS t s).1)∧Pq w p (sizS t s).2 w':=by
 have HV:Hid (Calls Tryz.prog 203 #[.pointer (some ⟨p,0,none⟩),.string t] w fun e w'=>e=.returned (.int .i64 (valS t s).1)∧Pq w p (valS t s).2 w'):=p_value t ht h
 have HR:Hid (-9223372036854775808≤(valS t s).1∧(valS t s).1≤9223372036854775807):=val_range t s
 unfold sizS
 generalize valS t s=r at HV HR ⊢
 obtain ⟨v,s1⟩:=r
 simp only at HV HR ⊢
 clear h
 obtain ⟨hr1,hr2⟩:=HR.out
 by_cases h2:v<0
 · rw [if_pos h2]
   go_enter Tryz.func202,Tryz.ntmps202
   go_wp2_with (go_at_call 203;refine HV.out.mono ?_;rintro e w2 ⟨rfl,hq⟩;have HQ2:=Lib.hid hq;obtain ⟨d0,d1,d2,dz⟩:=HQ2.out.cells;have g2:=dz 2)
   go_ret
   exact ⟨rfl,HQ2.out.setBad⟩
 · rw [if_neg h2]
   go_enter Tryz.func202,Tryz.ntmps202
   go_wp2_with (go_at_call 203;refine HV.out.mono ?_;rintro e w2 ⟨rfl,hq⟩;have HQ2:=Lib.hid hq)
   go_ret
   exact ⟨rfl,HQ2.out⟩
end Go.Proofs.YtmpljhfinmfnbaaGreatDoor

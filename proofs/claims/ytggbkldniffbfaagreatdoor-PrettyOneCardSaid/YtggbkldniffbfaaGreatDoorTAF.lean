/- The proof, part 6: texts that belong together, in one. -/
import Derived.Test.YtggbkldniffbfaaGreatDoorTAE
import Derived.Lib.Hide
import Derived.PlainAid
set_option maxRecDepth 100000
set_option maxHeartbeats 20000000
namespace Go.Proofs.YtggbkldniffbfaaGreatDoor
open Go.RowKit Go.Shelf
set_option linter.unusedVariables false
attribute [local go_sem] Oper.semAt_some
def scanPost (s:ByteArray) (n₀:Nat) (W:World) (v:Value):Prop :=
 if 65536<s.size then v=.tuple #[.slice none 0 0,.int .i64 4,faultV 0 0]
 else if (frontR s).2.2=0 then ∃ u,v=.tuple #[u,.int .i64 0,faultV 0 0]∧W.ownsRow n₀ 111 4 u (frontR s).1.length (rowR (frontR s).1)∧(u=.slice none 0 0↔(frontR s).1=[])
 else v=.tuple #[.slice none 0 0,.int .i64 20,faultV (frontR s).2.1 (frontR s).2.2]
def FltBox (W:World) (B:Nat):Prop:=W.heap[B]? = some (.cells #[.int .i64 0,.int .i64 0] 36 (0,0))
theorem scan_end {W:World} {D n₀:Nat} (hfb:FltBox W n₀) (hK:W.heap[D]? = some (.deferred (some []))) (hD:n₀<D) (a r:Int) :
 ((W.setCell ⟨n₀,0,none⟩ (.int .i64 a)).setCell ⟨n₀,1,none⟩ (.int .i64 r)).heap[D]? = some (.deferred (some [])) ∧
 (((W.setCell ⟨n₀,0,none⟩ (.int .i64 a)).setCell ⟨n₀,1,none⟩ (.int .i64 r)).putObj D (.deferred none)).heap[n₀]? = some (.cells #[.int .i64 a,.int .i64 r] 36 (0,0)) ∧
 Keep (fun k o=>k<n₀∨IsTy 111 o) W (((W.setCell ⟨n₀,0,none⟩ (.int .i64 a)).setCell ⟨n₀,1,none⟩ (.int .i64 r)).putObj D (.deferred none)):=by
 have h1:=heap_setCell_same W n₀ 0 _ _ (.int .i64 a) hfb
 have h2:=heap_setCell_same _ n₀ 1 _ _ (.int .i64 r) h1
 have hd:((W.setCell ⟨n₀,0,none⟩ (.int .i64 a)).setCell ⟨n₀,1,none⟩ (.int .i64 r)).heap[D]? = some (.deferred (some [])) :=
  (Below.heap_setCell _ _ _ _ (show D≠n₀ by omega)).trans ((Below.heap_setCell _ _ _ _ (show D≠n₀ by omega)).trans hK)
 refine ⟨hd,(World.putObj_heap_other (by omega)).trans h2,?_⟩
 refine (((Keep.refl _ W).setCell (p:=⟨n₀,0,none⟩) _ hfb ?_).setCell (p:=⟨n₀,1,none⟩) _ h1 ?_).putObj _ hd ?_
 · rintro (h | h)
   · exact Nat.lt_irrefl _ h
   · exact not_ty (by decide) h
 · rintro (h | h)
   · exact Nat.lt_irrefl _ h
   · exact not_ty (by decide) h
 · rintro (h | ⟨_, _, h⟩)
   · omega
   · cases h
theorem scan_any (s:ByteArray) (w:World) (T:LTabs w) :
 Calls Tryz.prog 48 #[.string s] w fun e w'=>(∃ v,e=.returned v∧scanPost s w.heap.size w' v)∧Below w.heap.size w w':=by
 by_cases hl:65536<s.size
 · go_enter Tryz.func48, Tryz.ntmps48
   have hl':(65536:Int)<(s.size:Int):=by omega
   go_wp2
   refine bodyPost_ret (v:=.tuple #[.slice none 0 0,.int .i64 4,.agg #[.int .i64 0,.int .i64 0]]) (by simp [results,Tryz.results48,go_sem]) rfl ⟨⟨_,rfl,?_⟩,(Below.refl _ w).alloc (Nat.le_refl _) _⟩
   unfold scanPost
   rw [if_pos hl]
   rfl
 · refine (callsIn_wide (n := 3)).1 ?_
   have hl':¬ (65536:Int)<(s.size:Int):=by omega
   have HT:=Lib.hid T
   clear T
   obtain ⟨i0,hi,hz0,hz1,hz2⟩:=info_parts infoTok
   refine callsIn_of_wp_marks Tryz.func48 rfl trivial ?_ rfl
   simp only [Tryz.ntmps48,List.size_toArray,List.length_cons,List.length_nil,Nat.reduceAdd,Nat.reduceSub,Array.replicate_succ,Array.replicate_zero,List.push_toArray,List.append_toArray,List.nil_append,List.cons_append]
   gi_wp2
   obtain ⟨W0,hW0⟩:∃ W0,W0=(((w.alloc (Obj.cells #[Value.int IntKind.i64 0,Value.int IntKind.i64 0] 36)).alloc (Obj.cells #[Value.string s,Value.int IntKind.i64 0,Value.int IntKind.i64 0,Value.int IntKind.i64 0] 138)).alloc (Obj.cells #[Value.slice none 0 0] 98)):=⟨_,rfl⟩
   rw [← hW0]
   have hz:W0.heap.size=w.heap.size+3:=by rw [hW0];simp
   have hB0:Below w.heap.size w W0:=by rw [hW0];exact (((Below.refl _ w).alloc (Nat.le_refl _) _).alloc (by simp) _).alloc (by simp;omega) _
   have hflt:FltBox W0 w.heap.size:=by
    rw [hW0]
    exact ((Below.heap_alloc _ _ _ (by simp;omega)).trans ((Below.heap_alloc _ _ _ (by simp)).trans (World.alloc_heap_new w _)))
   have hsc:Sc W0 (w.heap.size+1) s 0 0 0:=by
    rw [hW0]
    have h:=World.alloc_heap_new (w.alloc (Obj.cells #[Value.int IntKind.i64 0,Value.int IntKind.i64 0] 36)) (Obj.cells #[Value.string s,Value.int IntKind.i64 0,Value.int IntKind.i64 0,Value.int IntKind.i64 0] 138)
    rw [World.size_alloc] at h
    exact (Below.heap_alloc _ _ _ (by simp)).trans h
   have hbox:Boxed W0 (w.heap.size+1+1) 98 (.slice none 0 0):=by
    rw [hW0]
    have h:=World.alloc_heap_new ((w.alloc (Obj.cells #[Value.int IntKind.i64 0,Value.int IntKind.i64 0] 36)).alloc (Obj.cells #[Value.string s,Value.int IntKind.i64 0,Value.int IntKind.i64 0,Value.int IntKind.i64 0] 138)) (Obj.cells #[Value.slice none 0 0] 98)
    rw [World.size_alloc,World.size_alloc] at h
    exact h
   clear hW0
   have hI:∀ (pre:List Res) (A B:World),(Lst w.heap.size (w.heap.size+1+1) pre A∧FltBox A w.heap.size∧Below w.heap.size w A)→Keep (selC w.heap.size) A B→(Lst w.heap.size (w.heap.size+1+1) pre B∧FltBox B w.heap.size∧Below w.heap.size w B) :=
    fun pre A B h hk=>⟨h.1.keepC hk,hk.block _ _ h.2.1 (.inr ⟨rfl,not_ty (by decide)⟩),h.2.2.trans (hk.below h.2.2.size (fun k _ hk=>.inl hk))⟩
   refine wpIn_range_keep (n:=3) rfl (by omega) (gf:=87) (fst:=#[.pointer (some ⟨w.heap.size+1,0,none⟩)]) (lb:=#[]) rfl trivial (enters_of Tryz.func87 (by kernel_rfl) rfl)
    (encs:=encR) (fun _=>rfl) (selO w.heap.size) (selY w.heap.size) (selC w.heap.size)
    (fun k o ho=>.inr (fun ⟨_,_,e⟩=>by rw [e] at ho;cases ho))
    (fun k o hk ho=>by
     rcases ho with ho | ⟨_,_,e⟩ | ⟨_,_,e⟩
     · omega
     · rw [e];rfl
     · rw [e];rfl)
    (fun k o hk ho=>by
     rcases ho with ho | ho
     · omega
     · exact ho.1)
    (fun k o ho=>by
     rcases ho with ho | ho
     · exact .inl ho
     · exact .inr ho.2)
    (S:=fun xs W=>xs=(frontR s).1∧∃ p:Nat,Sc W (w.heap.size+1) s p (frontR s).2.1 (frontR s).2.2) (Sp:=fun _ _=>True) (ok:=okR s)
    (fun l J Jx W hbW hJ hJx hYl hJ0=>tokens_in 2 l (w.heap.size+1) s (by omega) w HT.out J Jx hJ hJx hYl W (hB0.trans (hbW.mono (by omega))) (by omega) (hsc.below hbW (by omega)) hJ0)
    (fun pre W=>Lst w.heap.size (w.heap.size+1+1) pre W∧FltBox W w.heap.size∧Below w.heap.size w W)
    (fun _ _ _=>False)
    hI
    (fun _ _ _ _ h _=>h)
    ⟨⟨_,hbox,World.ownsRow_nil _ _ _ _,by simp⟩,hflt,hB0⟩
    (fun x a' W=>∃ Bx,TokBox W Bx x∧a'={ tmps:=#[Value.string s,undef,Value.slice none 0 0,Value.int IntKind.i64 0,Value.pointer (some { block:=w.heap.size,off:=0 }),Value.pointer (some { block:=w.heap.size+1,off:=0 }),Value.pointer (some { block:=w.heap.size+1+1,off:=0 }),Value.pointer (some { block:=Bx,off:=0 }),Value.string s,Value.int IntKind.i64 ↑s.size,Value.bool false,undef,Value.string s,Value.agg #[Value.string s,Value.int IntKind.i64 0,Value.int IntKind.i64 0,Value.int IntKind.i64 0],Value.func (Fn.func 87) #[Value.pointer (some { block:=w.heap.size+1,off:=0 })] #[],tokV x.kind x.text x.wd x.place,undef,undef,undef,undef,undef,undef,undef,undef,undef,undef,undef,undef],defers:=[] })
    (fun x a' A B h hk=>by
     obtain ⟨Bx,h1,h2⟩:=h
     exact ⟨Bx,hk.block _ _ h1 (.inr ⟨rfl,not_ty (by decide)⟩),h2⟩)
    ?assign ?body ?done ?stop
   case assign =>
    rintro l pre x W K hi hK
    have HI:=Lib.hid hi
    have HK:=Lib.hid hK
    obtain ⟨rk,rx,rw0,rp,ra,rr⟩:=x
    clear hi hK
    simp only [encR,tokV]
    gi_wp2
    exact HK.out _ _ ((Keep.refl _ W).alloc _) (hI _ _ _ HI.out ((Keep.refl _ W).alloc _)) ⟨W.heap.size,World.alloc_heap_new W _,rfl⟩
   case body =>
    rintro l pre x a' W ⟨⟨v,hv,hrow,hnil⟩,hfb,hB⟩ ⟨Bx,hbx,rfl⟩ hok
    have hlen:=okR_len hok (by omega)
    obtain ⟨rk,rx,rw0,rp,ra,rr⟩:=x
    obtain ⟨⟨t0,t1,t2,t3⟩,_⟩:=row4 hbx
    have hc:=hv.cell
    have HB:=Lib.hid hB
    have hBs:w.heap.size≤W.heap.size:=hB.size
    have HF:=Lib.hid hfb
    have HBX:=Lib.hid hbx
    clear hB hfb hbx
    simp only [tokV]
    gi_wp2_with (gi_at_builtin;refine wpListIn_append_own _ rfl _ _ 98 rfl w.heap.size 111 i0 _ 4 40 Tryz.underlying98 hi hz0 hz1 hz2 rfl (by decide) _ _ _ rfl (hrow.alloc _) ⟨W.heap.size,0,none⟩ 1 1 [.int .u8 rk,.string rx,.int .i64 rw0,.int .i64 rp] rfl rfl (fun j u hj=>cell_four (World.alloc_heap_new W _) j u hj) (by simp [Value.oneCell']) (by simp only [maxLen];omega) (by omega) (by simp;omega) ?_;intro v' w1 hown' hgrow _;obtain ⟨g',cap',rfl⟩:=ownsRow_succ hown';obtain ⟨hv1,hv2,hr2,_,hb2⟩:=hv.appended (by decide) hrow hBs (by omega) hown' hgrow;have hc1:=hv1.cell;have hf1:=hv1.frozen)
    refine ⟨appended_keep (sel:=selB w.heap.size) hrow hgrow hv1 (fun g cs hg=>notB hg (by decide) (by decide)) (fun cs=>notB (by omega) (by decide) (by decide)),⟨_,hv2,?_,?_⟩,?_,HB.out.trans hb2⟩
    · rw [rowR_snoc,List.length_append];exact hr2
    · simp
    · exact (appended_keep (sel:=fun k o=>IsTy 36 o) hrow hgrow hv1 (fun _ _ _=>not_ty (by decide)) (fun _=>not_ty (by decide))).block _ _ HF.out ⟨_,_,rfl⟩
   case done =>
    rintro D xs W1 W hD ⟨rfl,p,hsc1⟩ ⟨⟨v,hv,hrow,hnil⟩,hfb,hB⟩ hk hK
    have hscW:Sc W (w.heap.size+1) s p (frontR s).2.1 (frontR s).2.2:=hsc1.keep hk (.inr rfl)
    obtain ⟨⟨c0,c1,c2,c3⟩,f1,f2,f3⟩:=hscW.cells
    obtain ⟨⟨b0,b1⟩,b2,b3⟩:=row2 hfb
    have hc:=hv.cell
    have hbs:=hB.size
    obtain ⟨R,hR⟩:∃ R,Hid (R=frontR s):=⟨_,rfl⟩
    rw [← hR.out] at c2 c3 hrow hnil
    obtain ⟨rxs,ra,rr⟩:=R
    have HFB:=Lib.hid hfb
    have HK:=Lib.hid hK
    have HBB:=Lib.hid hB
    have HR:=Lib.hid hrow
    have HN:=Lib.hid hnil
    clear hfb hK hB hrow hnil hk hsc1 hscW hv
    by_cases hrr:rr=0
    · subst hrr
      gi_wp2
      obtain ⟨k1,k2,k3⟩:=scan_end HFB.out HK.out (by omega) 0 0
      refine ⟨by simp,.inl ⟨_,_,rfl,run_takeDeferred k1,?_⟩⟩
      obtain ⟨⟨z0,z1⟩,_⟩:=row2 k2
      refine ⟨.tuple #[v,.int .i64 0,.agg #[.int .i64 0,.int .i64 0]],by simp [results,Tryz.results48,go_sem,z0,z1],⟨_,rfl,?_⟩,HBB.out.trans (k3.below HBB.out.size (fun k _ hk=>.inl hk))⟩
      unfold scanPost
      rw [if_neg hl,← hR.out,if_pos rfl]
      exact ⟨v,rfl,ownsRow_keep HR.out k3 (fun g cs _=>.inr ⟨_,_,rfl⟩),HN.out⟩
    · have hne : (rr != 0) = true := by simpa using hrr
      gi_wp2
      gi_region
      gi_wp2
      obtain ⟨k1,k2,k3⟩:=scan_end HFB.out HK.out (by omega) ra rr
      obtain ⟨⟨z0,z1⟩,_⟩:=row2 k2
      have k4:Keep (fun k o=>k<w.heap.size∨IsTy 111 o) W ((((W.setCell ⟨w.heap.size,0,none⟩ (.int .i64 ra)).setCell ⟨w.heap.size,1,none⟩ (.int .i64 rr)).drew).putObj D (.deferred none)):=⟨k3.os,k3.tape,k3.output,k3.size,k3.block⟩
      have y0:((((W.setCell ⟨w.heap.size,0,none⟩ (.int .i64 ra)).setCell ⟨w.heap.size,1,none⟩ (.int .i64 rr)).drew).putObj D (.deferred none)).cell? ⟨w.heap.size,0,none⟩=some (.int .i64 ra):=z0
      have y1:((((W.setCell ⟨w.heap.size,0,none⟩ (.int .i64 ra)).setCell ⟨w.heap.size,1,none⟩ (.int .i64 rr)).drew).putObj D (.deferred none)).cell? ⟨w.heap.size,1,none⟩=some (.int .i64 rr):=z1
      refine ⟨by simp,.inl ⟨_,_,rfl,run_takeDeferred (show ((W.setCell ⟨w.heap.size,0,none⟩ (.int .i64 ra)).setCell ⟨w.heap.size,1,none⟩ (.int .i64 rr)).drew.heap[D]? = _ from k1),?_⟩⟩
      refine ⟨.tuple #[.slice none 0 0,.int .i64 20,.agg #[.int .i64 ra,.int .i64 rr]],by simp [results,Tryz.results48,go_sem,y0,y1],⟨_,rfl,?_⟩,HBB.out.trans (k4.below HBB.out.size (fun k _ hk=>.inl hk))⟩
      unfold scanPost
      rw [if_neg hl,← hR.out,if_neg hrr]
      rfl
   case stop =>
    rintro D c pre W1 W _ _ h _ _
    exact h.elim
open Go.RowKit
set_option linter.unusedVariables false
theorem nat_beq (n m:Nat):((n:Int)==(m:Int))=decide (n=m):=by
 by_cases h:n=m
 · subst h;simp
 · rw [decide_eq_false h];exact int_f (by omega)
theorem empty_of {s:ByteArray} (h:¬ 0<s.size):s=⟨#[]⟩:=by
 cases s with
 | mk d =>
   have h1:(ByteArray.mk d).size=0:=by omega
   have h2:d.size=0:=h1
   simp at h2;rw [h2]
theorem nonempty_facts {s:ByteArray} (h0:0<s.size):s.toList.isEmpty=false∧¬ s.toList=[]:=by
 have hfr:s.data.toList=s[0]::bytesFrom s 1:=from_at s 0 h0
 exact ⟨by rw [Lib.toList_data,hfr];rfl,by rw [Lib.toList_data,hfr];simp⟩
def nameB (s:ByteArray):Bool:=decide (0<s.size)&&(decide (s.size≤32)&&(!digitB (PlainAid.bt s 0)&&(!wordB s&&decide (spanN namedB s.data.toList=s.size))))
theorem isname_any (s:ByteArray) (w:World) (T:LTabs w):Calls Tryz.prog 40 #[.string s] w fun e w'=>e=.returned (.bool (nameB s))∧w=w':=by
 by_cases h0:0<s.size
 · obtain ⟨hne, hne2⟩ := nonempty_facts h0
   by_cases h32:(32:Int)<(s.size:Int)
   · have hR : Hid (nameB s = false) := by
      unfold nameB
      rw [Hid,decide_eq_true h0,decide_eq_false (p:=s.size≤32) (by omega)];rfl
     rw [hR.out]
     go_enter Tryz.func40,Tryz.ntmps40
     go_wp2
     go_ret
     exact ⟨rfl,rfl⟩
   · have hs32 : s.size ≤ 32 := by omega
     have hx0:=PlainAid.bt_nonneg s 0
     have hx1:=PlainAid.bt_le s 0
     obtain ⟨c,hc⟩:∃ c,Hid (c=PlainAid.bt s 0):=⟨_,rfl⟩
     rw [← hc.out] at hx0 hx1
     have hbt0:∀ h:0<s.size,((s[0]'h).toNat:Int)=c:=fun h=>by rw [hc.out];exact PlainAid.get_bt s 0 h
     obtain ⟨q1,hq1⟩:∃ q,Hid (q=digitB c):=⟨_,rfl⟩
     obtain ⟨q2,hq2⟩:∃ q,Hid (q=wordB s):=⟨_,rfl⟩
     obtain ⟨n,hn⟩:∃ n,Hid (n=spanN namedB s.data.toList):=⟨_,rfl⟩
     have H1:Hid (∀ W:World,Calls Tryz.prog 72 #[.int .u8 c] W fun e w'=>e=.returned (.bool q1)∧W=w'):=fun W=>by
      rw [hq1.out];exact digit_any c hx0 hx1 W
     have H2:Hid (Calls Tryz.prog 73 #[.string s] w fun e w'=>e=.returned (.bool q2)∧w=w'):=by
      rw [hq2.out];exact word_any s w T
     have H3:Hid (∀ W:World,Calls Tryz.prog 74 #[.string s,.func (.func 75) #[] #[]] W fun e w'=>e=.returned (.int .i64 n)∧W=w'):=fun W=>by
      rw [hn.out];exact span_named s (by omega) W
     have hR:Hid (nameB s=(!q1&&(!q2&&decide (n=s.size)))):=by
      rw [Hid,hq1.out,hq2.out,hn.out,hc.out]
      unfold nameB
      rw [decide_eq_true h0,decide_eq_true hs32];rfl
     rw [hR.out]
     clear T
     go_enter Tryz.func40,Tryz.ntmps40
     go_wp2_with (first
      | (go_at_call 72;refine (H1.out _).mono ?_;rintro e w' ⟨rfl,rfl⟩)
      | (go_at_call 73;refine (H2.out).mono ?_;rintro e w' ⟨rfl,rfl⟩)
      | (go_at_call 74;refine (H3.out _).mono ?_;rintro e w' ⟨rfl,rfl⟩))
     · go_ret
       refine ⟨ret_bool ?_,rfl⟩
       simp [*]
     · go_ret
       refine ⟨ret_bool ?_,rfl⟩
       simp [*]
     · go_ret
       refine ⟨ret_bool ?_,rfl⟩
       rw [nat_beq]
       simp [*]
 · obtain rfl := empty_of h0
   have hR:Hid (nameB ⟨#[]⟩=false):=rfl
   rw [hR.out]
   clear h0
   go_enter Tryz.func40,Tryz.ntmps40
   go_wp2
   go_ret
   exact ⟨rfl,rfl⟩
open Go.RowKit
set_option linter.unusedVariables false
set_option linter.unusedSimpArgs false
def wordL (l:List UInt8):Bool:=(l==[115,104,97,114,101,100]) || (l==[108,111,99,107]) || (l==[116,104,114,101,97,100]) || (l==[108,111,99,97,108]) || (l==[105,102]) || (l==[101,108,115,101]) || (l==[119,104,105,108,101]) || (l==[112,114,105,110,116]) || (l==[115,107,105,112]) || (l==[115,119,97,112])
theorem wordB_list (s:ByteArray):wordB s=wordL s.toList:=by
 have h:∀ (v:ByteArray) (l:List UInt8),v.toList=l→(v.toList==s.toList)=(s.toList==l):=fun v l e=>by
  rw [e];exact Bool.eq_iff_iff.2 ⟨fun h=>by simpa using (by simpa using h:l=s.toList).symm,fun h=>by simpa using (by simpa using h:s.toList=l).symm⟩
 unfold wordB wordL
 rw [h (wordAt 0) [115,104,97,114,101,100] (by rw [Lib.toList_data];rfl),h (wordAt 1) [108,111,99,107] (by rw [Lib.toList_data];rfl),h (wordAt 2) [116,104,114,101,97,100] (by rw [Lib.toList_data];rfl),h (wordAt 3) [108,111,99,97,108] (by rw [Lib.toList_data];rfl),h (wordAt 4) [105,102] (by rw [Lib.toList_data];rfl),h (wordAt 5) [101,108,115,101] (by rw [Lib.toList_data];rfl),h (wordAt 6) [119,104,105,108,101] (by rw [Lib.toList_data];rfl),h (wordAt 7) [112,114,105,110,116] (by rw [Lib.toList_data];rfl),h (wordAt 8) [115,107,105,112] (by rw [Lib.toList_data];rfl),h (wordAt 9) [115,119,97,112] (by rw [Lib.toList_data];rfl)]
open Go.RowKit
set_option linter.unusedVariables false
theorem u8_int {a b:UInt8} : ((a.toNat:Int)=(b.toNat:Int))↔a=b :=
 ⟨fun h=>UInt8.toNat_inj.1 (by omega),fun h=>by rw [h]⟩
theorem blank_not47 {x:UInt8} (h:blankB (x.toNat:Int)=true):¬ x=47:=by
 intro e;subst e;revert h;decide
theorem prefix_no {x:UInt8} {r:List UInt8} (h:¬ x=47):Lib.hasPrefix (x::r) slashes=false:=by
 cases hp:Lib.hasPrefix (x::r) slashes with
 | false=>rfl
 | true =>
   unfold Lib.hasPrefix slashes at hp
   simp only [List.isPrefixOf_cons_cons,Bool.and_eq_true,beq_iff_eq] at hp
   exact absurd hp.1.symm h
theorem prefix_one (x:UInt8):Lib.hasPrefix [x] slashes=false:=by
 unfold Lib.hasPrefix slashes
 simp [List.isPrefixOf]
theorem prefix_two (x y:UInt8) (r:List UInt8):Lib.hasPrefix (x::y::r) slashes=(decide (x=47)&&decide (y=47)):=by
 unfold Lib.hasPrefix slashes
 simp only [List.isPrefixOf_cons_cons,List.isPrefixOf_nil_left,Bool.and_true]
 congr 1
 · by_cases hx : x = 47
   · subst hx;rfl
   · rw [decide_eq_false hx];simpa using fun h:47=x=>hx h.symm
 · by_cases hx : y = 47
   · subst hx;rfl
   · rw [decide_eq_false hx];simpa using fun h:47=y=>hx h.symm
theorem pass_cons (x:UInt8) (r:List UInt8) (h:blankB (x.toNat:Int)=true):passN (x::r)=1+passN r:=by
 have h1:stepN (x::r)=spanN blankB r+1:=by
  unfold stepN
  rw [prefix_no (blank_not47 h),if_neg (by decide)]
  simp only [spanN]
  rw [if_pos h]
 have h2:passN (x::r)=spanN blankB r+1+passN (r.drop (spanN blankB r)):=by
  rw [passN_step (by rw [h1];omega),h1];rfl
 have h3:passN r=spanN blankB r+passN (r.drop (spanN blankB r)):=by
  by_cases h0:spanN blankB r=0
  · rw [h0];simp
  · have hs : stepN r = spanN blankB r := by
     unfold stepN
     cases hp:Lib.hasPrefix r slashes with
     | false=>rw [if_neg (by decide)]
     | true =>
       exfalso
       apply h0
       cases r with
       | nil=>rfl
       | cons y t =>
         by_cases hy:y=47
         · subst hy;simp only [spanN];rw [if_neg (by decide)]
         · rw [prefix_no hy] at hp;cases hp
    have h4:=passN_step (l:=r) (by rw [hs];exact h0)
    rw [hs] at h4
    exact h4
 omega
theorem pass_remark {l:List UInt8} (h:Lib.hasPrefix l slashes=true):passN l=spanN feedB l+passN (l.drop (spanN feedB l)):=by
 have hs:stepN l=spanN feedB l:=by unfold stepN;rw [if_pos h]
 by_cases h0:spanN feedB l=0
 · rw [h0];simp
 · have h4 := passN_step (l := l) (by rw [hs]; exact h0)
   rw [hs] at h4
   exact h4
theorem pass_none {l:List UInt8} {x:UInt8} {r:List UInt8} (e:l=x::r) (h:Lib.hasPrefix l slashes=false) (hb:blankB (x.toNat:Int)=false):passN l=0:=by
 apply passN_stop
 unfold stepN
 rw [h,if_neg (by decide),e]
 simp only [spanN]
 rw [if_neg (by rw [hb];decide)]
open Go.RowKit
set_option linter.unusedVariables false
theorem ownsRow_base {W:World} {base base':Nat} {e:TypeId} {size:Nat} {v:Value} {k:Nat} {xs:List Value} (h:W.ownsRow base e size v k xs) (hb:base'≤base):W.ownsRow base' e size v k xs:=by
 refine ⟨h.1,?_⟩
 rcases h.2 with h2 | ⟨g,cap,cur,hv,hg,rest⟩
 · exact .inl h2
 · exact .inr ⟨g,cap,cur,hv,Nat.le_trans hb hg,rest⟩
open Go.RowKit
set_option linter.unusedVariables false
def TokRow (W:World) (v:Value) (xs:List Res):Prop :=
 ∃ oa cap, v = .slice oa xs.length cap ∧ ∀ (i : Nat) (x : Res), xs[i]? = some x → ∃ g off, oa = some ⟨g, off, none⟩ ∧
   W.cell? ⟨g,off+i*4,none⟩=some (.int .u8 x.kind)∧W.cell? ⟨g,off+i*4+1,none⟩=some (.string x.text)∧W.cell? ⟨g,off+i*4+2,none⟩=some (.int .i64 x.wd)∧W.cell? ⟨g,off+i*4+3,none⟩=some (.int .i64 x.place)
def scanX (s:ByteArray):List Res × Int × Int × Int :=
 if 65536<s.size then ([],4,0,0) else if (frontR s).2.2=0 then ((frontR s).1,0,0,0) else ([],20,(frontR s).2.1,(frontR s).2.2)
theorem scanPost_row {s:ByteArray} {n₀:Nat} {W:World} {v:Value} (h:scanPost s n₀ W v) :
 ∃ u,v=.tuple #[u,.int .i64 (scanX s).2.1,.agg #[.int .i64 (scanX s).2.2.1,.int .i64 (scanX s).2.2.2]]∧W.ownsRow n₀ 111 4 u (scanX s).1.length (rowR (scanX s).1)∧(u=.slice none 0 0↔(scanX s).1=[]):=by
 unfold scanPost at h
 unfold scanX
 split at h
 · rename_i hl
   rw [if_pos hl]
   exact ⟨_,h,World.ownsRow_nil _ _ _ _,by simp⟩
 · rename_i hl
   rw [if_neg hl]
   split at h
   · rename_i hf
     rw [if_pos hf]
     exact h
   · rename_i hf
     rw [if_neg hf]
     exact ⟨_,h,World.ownsRow_nil _ _ _ _,by simp⟩
theorem scanX_len (s:ByteArray):(scanX s).1.length≤65536:=by
 unfold scanX
 split
 · exact Nat.zero_le _
 · split
   · have:=front_len s;simp only;omega
   · exact Nat.zero_le _
theorem rowR_at:∀ (xs:List Res) (i j:Nat) (x:Res),xs[i]? = some x→j<4→(rowR xs)[i*4+j]? = (tokCells x)[j]?
 | [],i,j,x,h,_=>by simp at h
 | y :: ys, 0, j, x, h, hj => by
   obtain rfl:y=x:=by simpa using h
   have:rowR (y::ys)=tokCells y++rowR ys:=rfl
   rw [this,Nat.zero_mul,Nat.zero_add,List.getElem?_append_left (by show j<4;exact hj)]
 | y :: ys, i + 1, j, x, h, hj => by
   have:rowR (y::ys)=tokCells y++rowR ys:=rfl
   rw [this,List.getElem?_append_right (by show 4≤_;omega)]
   have e:(i+1)*4+j-(tokCells y).length=i*4+j:=by show (i+1)*4+j-4=_;omega
   rw [e]
   exact rowR_at ys i j x (by simpa using h) hj
theorem tokRow_owns {W:World} {base:Nat} {u:Value} {xs:List Res} (h:W.ownsRow base 111 4 u xs.length (rowR xs)):TokRow W u xs:=by
 rcases h.2 with ⟨rfl,h0⟩ | ⟨g,cap,cur,rfl,hb,hg,hle,hcap,hcs,htk⟩
 · refine ⟨none, 0, by rw [h0], fun i x hx => ?_⟩
   have:=(List.getElem?_eq_some_iff.1 hx).1
   omega
 · refine ⟨some ⟨g, 0, none⟩, cap, rfl, fun i x hx => ⟨g, 0, rfl, ?_⟩⟩
   have key:∀ j u,j<4→(tokCells x)[j]? = some u→W.cell? ⟨g,i*4+j,none⟩=some u:=fun j u hj4 hu=>by
    have h0:=rowR_at xs i j x hx hj4
    rw [hu,← htk,List.getElem?_take] at h0
    split at h0
    · have h2 : cur[i * 4 + j]? = some u := by rw [← Array.getElem?_toList]; exact h0
      rw [cell_of_row W g (i*4+j) _ _ _ hg];exact h2
    · cases h0
   simp only [Nat.zero_add]
   exact ⟨key 0 _ (by decide) rfl,key 1 _ (by decide) rfl,key 2 _ (by decide) rfl,key 3 _ (by decide) rfl⟩
theorem TokRow.keep {W W':World} {u:Value} {xs:List Res} (h:TokRow W u xs) (hb:Below W.heap.size W W'):TokRow W' u xs:=by
 obtain ⟨oa,cap,hu,hc⟩:=h
 refine ⟨oa,cap,hu,fun i x hx=>?_⟩
 obtain ⟨g,off,ho,a0,a1,a2,a3⟩:=hc i x hx
 have hg:g<W.heap.size:=lt_of_at a0
 exact ⟨g,off,ho,(hb.cell (p:=⟨g,off+i*4,none⟩) hg).trans a0,(hb.cell (p:=⟨g,off+i*4+1,none⟩) hg).trans a1,(hb.cell (p:=⟨g,off+i*4+2,none⟩) hg).trans a2,(hb.cell (p:=⟨g,off+i*4+3,none⟩) hg).trans a3⟩
theorem scan_row (s:ByteArray) {w:World} (T:LTabs w) :
 Calls Tryz.prog 48 #[.string s] w fun e w'=>∃ u,e=.returned (.tuple #[u,.int .i64 (scanX s).2.1,.agg #[.int .i64 (scanX s).2.2.1,.int .i64 (scanX s).2.2.2]])∧w'.ownsRow w.heap.size 111 4 u (scanX s).1.length (rowR (scanX s).1)∧(u=.slice none 0 0↔(scanX s).1=[])∧Below w.heap.size w w':=by
 refine (scan_any s w T).mono ?_
 rintro e w' ⟨⟨v,rfl,h⟩,hb⟩
 obtain ⟨u,rfl,h1,h2⟩:=scanPost_row h
 exact ⟨u,rfl,h1,h2,hb⟩
set_option linter.unusedVariables false
structure Tk where
 kind:Int
 text:ByteArray
 wd:Int
 pos:Int
inductive Ex where
 | mk (kind op wd:Int) (name:ByteArray) (kids:List Ex) (pos:Int)
structure Dc where
 name:ByteArray
 wd:Int
 pos:Int
inductive St where
 | mk (kind:Int) (name other:ByteArray) (e:List Ex) (body els:List St) (pos:Int)
structure Th where
 name:ByteArray
 locals:List Dc
 body:List St
 pos:Int
structure Pg where
 shared:List Dc
 locks:List Dc
 threads:List Th
theorem Ex.ind {P:Ex→Prop} (h:∀ k o w n ks a,(∀ x∈ks,P x)→P (.mk k o w n ks a)):∀ e,P e
 | .mk k o w n ks a=>h k o w n ks a fun x hx=>Ex.ind h x
termination_by e=>SizeOf.sizeOf e
decreasing_by
 have:=List.sizeOf_lt_of_mem hx
 simp only [Ex.mk.sizeOf_spec]
 omega
theorem St.ind {P:St→Prop} (h:∀ k n o e b l a,(∀ x∈b,P x)→(∀ x∈l,P x)→P (.mk k n o e b l a)):∀ s,P s
 | .mk k n o e b l a=>h k n o e b l a (fun x hx=>St.ind h x) (fun x hx=>St.ind h x)
termination_by s=>SizeOf.sizeOf s
decreasing_by
 · have := List.sizeOf_lt_of_mem hx
   simp only [St.mk.sizeOf_spec]
   omega
 · have := List.sizeOf_lt_of_mem hx
   simp only [St.mk.sizeOf_spec]
   omega
theorem Exs.ind {P:List Ex→Prop} (h0:P []) (h1:∀ k o w n ks a r,P ks→P r→P (.mk k o w n ks a::r)):∀ l,P l
 | []=>h0
 | .mk k o w n ks a::r=>h1 k o w n ks a r (Exs.ind h0 h1 ks) (Exs.ind h0 h1 r)
termination_by l=>SizeOf.sizeOf l
theorem Sts.ind {P:List St→Prop} (h0:P []) (h1:∀ k n o e b l a r,P b→P l→P r→P (.mk k n o e b l a::r)):∀ l,P l
 | []=>h0
 | .mk k n o e b l a::r=>h1 k n o e b l a r (Sts.ind h0 h1 b) (Sts.ind h0 h1 l) (Sts.ind h0 h1 r)
termination_by l=>SizeOf.sizeOf l
def Ex.kind:Ex→Int | .mk k _ _ _ _ _=>k
def Ex.op:Ex→Int | .mk _ o _ _ _ _=>o
def Ex.wd:Ex→Int | .mk _ _ w _ _ _=>w
def Ex.name:Ex→ByteArray | .mk _ _ _ n _ _=>n
def Ex.kids:Ex→List Ex | .mk _ _ _ _ k _=>k
def Ex.pos:Ex→Int | .mk _ _ _ _ _ p=>p
def St.kind:St→Int | .mk k _ _ _ _ _ _=>k
def St.name:St→ByteArray | .mk _ n _ _ _ _ _=>n
def St.other:St→ByteArray | .mk _ _ o _ _ _ _=>o
def St.e:St→List Ex | .mk _ _ _ e _ _ _=>e
def St.body:St→List St | .mk _ _ _ _ b _ _=>b
def St.els:St→List St | .mk _ _ _ _ _ l _=>l
def St.pos:St→Int | .mk _ _ _ _ _ _ p=>p
inductive PR (α:Type) where
 | ok (a:α) (r:List Tk)
 | bad (pos rule:Int)
def PR.then {α β:Type} (x:PR α) (f:α→List Tk→PR β):PR β :=
 match x with
 | .ok a r=>f a r
 | .bad p r=>.bad p r
@[simp] theorem PR.then_ok {α β:Type} (a:α) (r:List Tk) (f:α→List Tk→PR β):(PR.ok a r).then f=f a r:=rfl
@[simp] theorem PR.then_bad {α β:Type} (p r:Int) (f:α→List Tk→PR β):(PR.bad p r:PR α).then f=.bad p r:=rfl
abbrev Bs:=List UInt8
def Tk.tx (t:Tk):Bs:=t.text.data.toList
def hdP (L:Int):List Tk→Int
 | []=>L
 | t::_=>t.pos
def isT (s:Bs):List Tk→Bool
 | []=>false
 | t::_=>t.tx==s
def need (L:Int) (s:Bs) (ts:List Tk):PR Unit:=if isT s ts then .ok () ts.tail else .bad (hdP L ts) 2
def nameP (L:Int):List Tk→PR Dc
 | []=>.bad L 2
 | t::r=>if t.kind=1 then .ok ⟨t.text,0,t.pos⟩ r else .bad t.pos 2
def numP (L:Int):List Tk→PR Int
 | []=>.bad L 2
 | t::r=>if t.kind=3 then .ok t.wd r else .bad t.pos 2
def sLevel:List Int:=[0,7,7,8,8,8,3,1,2,6,6,4,4,5,5,5,5,9,9]
def levelI (o:Int):Int:=sLevel.getD o.toNat 0
def unX (op:Int) (p:Int) (e:Ex):Ex:=.mk 3 op 0 ⟨#[]⟩ [e] p
def biX (op:Int) (p:Int) (a b:Ex):Ex:=.mk 4 op 0 ⟨#[]⟩ [a,b] p
section
variable (fnd:Bs→Int × Bool) (L:Int)
mutual
def opnd:Nat→Int→List Tk→PR Ex
 | 0,_,_=>.bad 0 0
 | _+1,_,[]=>.bad L 2
 | n + 1, d, t :: r =>
   if t.kind=3 then .ok (.mk 1 0 t.wd ⟨#[]⟩ [] t.pos) r
   else if t.kind=1 then .ok (.mk 2 0 0 t.text [] t.pos) r
   else if t.tx=[45] then if d=64 then .bad t.pos 3 else (opnd n (d+1) r).then fun e r=>.ok (unX 17 t.pos e) r
   else if t.tx=[33] then if d=64 then .bad t.pos 3 else (opnd n (d+1) r).then fun e r=>.ok (unX 18 t.pos e) r
   else if t.tx=[40] then if d=64 then .bad t.pos 3 else (binE n 1 (d+1) r).then fun e r=>(need L [41] r).then fun _ r=>.ok e r
   else .bad t.pos 2
def binE:Nat→Int→Int→List Tk→PR Ex
 | 0,_,_,_=>.bad 0 0
 | n+1,v,d,ts=>(opnd n d ts).then fun e r=>binL n v d e r
def binL:Nat→Int→Int→Ex→List Tk→PR Ex
 | 0,_,_,_,_=>.bad 0 0
 | _+1,_,_,e,[]=>.ok e []
 | n + 1, v, d, e, t :: r =>
   if (fnd t.tx).2=true∧v≤levelI (fnd t.tx).1 then (binE n (levelI (fnd t.tx).1+1) d r).then fun f r=>binL n v d (biX (fnd t.tx).1 t.pos e f) r
   else .ok e (t::r)
end
def listP (one:List Tk→PR Dc):Nat→List Dc→List Tk→PR (List Dc)
 | 0,_,_=>.bad 0 0
 | n+1,acc,ts=>(one ts).then fun d r=>if isT [44] r then listP one n (acc++[d]) r.tail else (need L [59] r).then fun _ r=>.ok (acc++[d]) r
def firstP (ts:List Tk):PR Dc:=(nameP L ts).then fun d r =>
 if isT [61] r then
  if isT [45] r.tail then (numP L r.tail.tail).then fun v r=>.ok ⟨d.name,-v,d.pos⟩ r
  else (numP L r.tail).then fun v r=>.ok ⟨d.name,v,d.pos⟩ r
 else .ok d r
def parenP (n:Nat) (ts:List Tk):PR Ex:=(need L [40] ts).then fun _ r=>(binE fnd L n 1 0 r).then fun e r=>(need L [41] r).then fun _ r=>.ok e r
def changeP (n:Nat) (t:Tk) (r:List Tk):PR St :=
 (need L [61] r).then fun _ r =>
  if isT [115,119,97,112] r then
   (need L [40] r.tail).then fun _ r=>(nameP L r).then fun o r=>(need L [44] r).then fun _ r=>(binE fnd L n 1 0 r).then fun e r=>(need L [41] r).then fun _ r=>(need L [59] r).then fun _ r=>.ok (.mk 2 t.text o.name [e] [] [] t.pos) r
  else (binE fnd L n 1 0 r).then fun e r=>(need L [59] r).then fun _ r=>.ok (.mk 1 t.text ⟨#[]⟩ [e] [] [] t.pos) r
def openP (d:Int) (ts:List Tk):PR Unit:=(need L [123] ts).then fun _ r=>if 64<d then .bad (hdP L ts) 3 else .ok () r
mutual
def stmtP:Nat→Int→List Tk→PR St
 | 0,_,_=>.bad 0 0
 | _+1,_,[]=>.bad L 2
 | n + 1, d, t :: r =>
   if t.kind=1 then changeP fnd L n t r
   else if t.tx=[105,102] then (parenP fnd L n r).then fun e r=>(openP L (d+1) r).then fun _ r=>(restP n (d+1) [] r).then fun b r =>
    if isT [101,108,115,101] r then (openP L (d+1) r.tail).then fun _ r=>(restP n (d+1) [] r).then fun l r=>.ok (.mk 3 ⟨#[]⟩ ⟨#[]⟩ [e] b l t.pos) r
    else .ok (.mk 3 ⟨#[]⟩ ⟨#[]⟩ [e] b [] t.pos) r
   else if t.tx=[119,104,105,108,101] then (parenP fnd L n r).then fun e r=>(openP L (d+1) r).then fun _ r=>(restP n (d+1) [] r).then fun b r=>.ok (.mk 4 ⟨#[]⟩ ⟨#[]⟩ [e] b [] t.pos) r
   else if t.tx=[108,111,99,107] then (nameP L r).then fun o r=>(openP L (d+1) r).then fun _ r=>(restP n (d+1) [] r).then fun b r=>.ok (.mk 5 o.name ⟨#[]⟩ [] b [] t.pos) r
   else if t.tx=[112,114,105,110,116] then (binE fnd L n 1 0 r).then fun e r=>(need L [59] r).then fun _ r=>.ok (.mk 6 ⟨#[]⟩ ⟨#[]⟩ [e] [] [] t.pos) r
   else if t.tx=[115,107,105,112] then (need L [59] r).then fun _ r=>.ok (.mk 7 ⟨#[]⟩ ⟨#[]⟩ [] [] [] t.pos) r
   else .bad t.pos 2
def restP:Nat→Int→List St→List Tk→PR (List St)
 | 0,_,_,_=>.bad 0 0
 | n+1,d,acc,ts=>if isT [125] ts then .ok acc ts.tail else (stmtP n d ts).then fun s r=>restP n d (acc++[s]) r
end
def localsP:Nat→List Dc→List Tk→PR (List Dc)
 | 0,_,_=>.bad 0 0
 | n+1,acc,ts=>if isT [108,111,99,97,108] ts then (listP L (nameP L) n [] ts.tail).then fun l r=>localsP n (acc++l) r else .ok acc ts
def threadP (n:Nat) (ts:List Tk):PR Th :=
 (nameP L ts).then fun d r=>(openP L 1 r).then fun _ r=>(localsP L n [] r).then fun l r=>(restP fnd L n 1 [] r).then fun b r=>.ok ⟨d.name,l,b,d.pos⟩ r
def threadsP:Nat→List Th→List Tk→PR (List Th)
 | 0,_,_=>.bad 0 0
 | n+1,acc,ts=>if isT [116,104,114,101,97,100] ts then (threadP fnd L n ts.tail).then fun t r=>threadsP n (acc++[t]) r else .ok acc ts
def declsP:Nat→Pg→List Tk→PR Pg
 | 0,_,_=>.bad 0 0
 | n + 1, p, ts =>
   if isT [115,104,97,114,101,100] ts then (listP L (firstP L) n [] ts.tail).then fun l r=>declsP n { p with shared:=p.shared++l } r
   else if isT [108,111,99,107] ts then (listP L (nameP L) n [] ts.tail).then fun l r=>declsP n { p with locks:=p.locks++l } r
   else .ok p ts
def endP {α:Type} (x:PR α):PR α:=x.then fun a r=>match r with | []=>.ok a [] | t::_=>.bad t.pos 2
def progP (n:Nat) (ts:List Tk):PR Pg:=(declsP L n ⟨[],[],[]⟩ ts).then fun p r=>(threadsP fnd L n [] r).then fun l r=>.ok { p with threads:=l } r
def fuel (ts:List Tk):Nat:=3*ts.length+5
end
end Go.Proofs.YtggbkldniffbfaaGreatDoor

/- The proof, part 31: texts that belong together, in one. -/
import Derived.Test.YtmpljhfinmfnbaaGreatDoorQBD
set_option maxRecDepth 100000
set_option maxHeartbeats 20000000
namespace Go.Proofs.YtmpljhfinmfnbaaGreatDoor
open Go.RowKit
set_option linter.unusedVariables false
set_option linter.unusedSimpArgs false
set_option maxRecDepth 100000
theorem has_D (k o:Int) (h:0≤k∧k≤11):hasB (uB k o) 1=(k==2)∧hasB (uB k o) 2=dB k∧hasB (uB k o) 4=aB k∧hasB (uB k o) 8=bB k o∧hasB (uB k o) 16=adB k∧hasB (uB k o) 32=toB k∧hasB (uB k o) 64=(k==1):=by
 by_cases hk:kB k=true
 · exact has_all k o hk
 · have hu : uB k o = 0 := by
    unfold uB
    rw [Bool.eq_false_iff.2 hk]
    rfl
   have h01:k=0∨k=11:=by
    have hn:¬ (0<k∧k<11):=fun q=>hk (by unfold kB;simp [q])
    omega
   rw [hu]
   rcases h01 with rfl | rfl
   · exact ⟨by decide,by decide,by decide,by unfold bB;simp only [show ((0:Int)==2)=false by decide,Bool.false_and];decide,by decide,by decide,by decide⟩
   · exact ⟨by decide,by decide,by decide,by unfold bB;simp only [show ((11:Int)==2)=false by decide,Bool.false_and];decide,by decide,by decide,by decide⟩
structure GD (code mem:Int) (i:Ins):Prop where
 k:0≤i.k∧i.k≤11
 o:optP (i.k==2) (fun x=>0≤x∧x≤19) i.o
 d:optP (dB i.k) (fun x=>0≤x∧x≤16) i.d
 a:optP (aB i.k) (fun x=>0≤x∧x≤16) i.a
 b:optP (bB i.k i.o) (fun x=>0≤x∧x≤16) i.b
 wd:optP (i.k==1) (I64) i.wd
 ad:optP (adB i.k) (fun x=>0≤x∧x≤mem) i.ad
 tt:optP (toB i.k) (fun x=>0≤x∧x≤code) i.tt
 fr:0≤i.fr∧i.fr≤4096
theorem insY_D (i:Ins) (h:0≤i.k∧i.k≤11) (r:List UInt8):insY i++r=numY i.k++((bif (i.k==2) then numY i.o else [])++((bif (dB i.k) then numY i.d else [])++((bif (aB i.k) then numY i.a else [])++((bif (bB i.k i.o) then numY i.b else [])++((bif (i.k==1) then wrdY i.wd else [])++((bif (adB i.k) then numY i.ad else [])++((bif (toB i.k) then numY i.tt else [])++(numY i.fr++r)))))))):=by
 obtain ⟨h1,h2,h3,h4,h5,h6,h7⟩:=has_D i.k i.o h
 have h0:hasB (uB i.k 0) 1=(i.k==2):=(has_D i.k 0 h).1
 rw [insY_eq,h0,h2,h3,h4,h5,h6,h7]
 by_cases e:(i.k==1)=true
 · have e1 : i.k = 1 := by simpa using e
   have a1:adB i.k=false:=by rw [e1];decide
   have a2:toB i.k=false:=by rw [e1];decide
   rw [a1,a2]
   simp only [cond_false,List.nil_append]
 · rw [Bool.eq_false_iff.2 e]
   simp only [cond_false,List.nil_append]
theorem rd_inD (code mem:Int) (hc:code≤9223372036854775807) (hm:mem≤9223372036854775807):RdY (insD code mem) insY (GD code mem):=by
 refine ⟨fun i g r=>?_,fun s i t e ht=>?_⟩
 · rw [insY_D i g.k]
   unfold insD
   rw [(rd_sm 11 (by decide)).put i.k g.k]
   simp only
   rw [(rd_opt (i.k==2) (rd_sm 19 (by decide))).put i.o g.o]
   simp only
   rw [(rd_opt (dB i.k) (rd_sm 16 (by decide))).put i.d g.d]
   simp only
   rw [(rd_opt (aB i.k) (rd_sm 16 (by decide))).put i.a g.a]
   simp only
   rw [(rd_opt (bB i.k i.o) (rd_sm 16 (by decide))).put i.b g.b]
   simp only
   rw [(rd_opt (i.k==1) (rd_wd)).put i.wd g.wd]
   simp only
   rw [(rd_opt (adB i.k) (rd_sm mem hm)).put i.ad g.ad]
   simp only
   rw [(rd_opt (toB i.k) (rd_sm code hc)).put i.tt g.tt]
   simp only
   rw [(rd_sm 4096 (by decide)).put i.fr g.fr]
 · unfold insD at e
   rcases h0:smR 11 s with ⟨k,s0⟩
   rw [h0] at e
   simp only at e
   rcases h1:optR (k==2) (smR 19) s0 with ⟨o,s1⟩
   rw [h1] at e
   simp only at e
   rcases h2:optR (dB k) (smR 16) s1 with ⟨d,s2⟩
   rw [h2] at e
   simp only at e
   rcases h3:optR (aB k) (smR 16) s2 with ⟨a,s3⟩
   rw [h3] at e
   simp only at e
   rcases h4:optR (bB k o) (smR 16) s3 with ⟨b,s4⟩
   rw [h4] at e
   simp only at e
   rcases h5:optR (k==1) wdR s4 with ⟨wd,s5⟩
   rw [h5] at e
   simp only at e
   rcases h6:optR (adB k) (smR mem) s5 with ⟨ad,s6⟩
   rw [h6] at e
   simp only at e
   rcases h7:optR (toB k) (smR code) s6 with ⟨tt,s7⟩
   rw [h7] at e
   simp only at e
   rcases h8:smR 4096 s7 with ⟨fr,s8⟩
   rw [h8] at e
   simp only [Prod.mk.injEq] at e
   obtain ⟨rfl,rfl⟩:=e
   obtain ⟨b8,p8,e8⟩:=(rd_sm 4096 (by decide)).get _ _ _ h8 ht
   obtain ⟨b7,p7,e7⟩:=(rd_opt _ (rd_sm code hc)).get _ _ _ h7 b8
   obtain ⟨b6,p6,e6⟩:=(rd_opt _ (rd_sm mem hm)).get _ _ _ h6 b7
   obtain ⟨b5,p5,e5⟩:=(rd_opt _ (rd_wd)).get _ _ _ h5 b6
   obtain ⟨b4,p4,e4⟩:=(rd_opt _ (rd_sm 16 (by decide))).get _ _ _ h4 b5
   obtain ⟨b3,p3,e3⟩:=(rd_opt _ (rd_sm 16 (by decide))).get _ _ _ h3 b4
   obtain ⟨b2,p2,e2⟩:=(rd_opt _ (rd_sm 16 (by decide))).get _ _ _ h2 b3
   obtain ⟨b1,p1,e1⟩:=(rd_opt _ (rd_sm 19 (by decide))).get _ _ _ h1 b2
   obtain ⟨b0,p0,e0⟩:=(rd_sm 11 (by decide)).get _ _ _ h0 b1
   refine ⟨b0,⟨p0,p1,p2,p3,p4,p5,p6,p7,p8⟩,?_⟩
   rw [insY_D _ p0,e0,e1,e2,e3,e4,e5,e6,e7,e8]
open Go.RowKit
set_option linter.unusedVariables false
set_option linter.unusedSimpArgs false
set_option maxRecDepth 100000
def corD (mem:Int) (s:Bst):Cor × Bst :=
 let n:=smR 32 s
 if (n.2.1.length:Int)<n.1 then (⟨⟨#[]⟩,[]⟩,(n.2.1,true)) else
 let k:=smR 16384 (n.2.1.drop n.1.toNat,n.2.2)
 let c:=repR (insD k.1 mem) k.1.toNat k.2
 (⟨⟨(n.2.1.take n.1.toNat).toArray⟩,c.1⟩,c.2)
structure GCD (mem:Int) (c:Cor):Prop where
 name:(c.name.size:Int)≤32
 code:(c.code.length:Int)≤16384∧∀ i∈c.code,GD c.code.length mem i
theorem rd_corD (mem:Int) (hm:mem≤9223372036854775807):RdY (corD mem) corY (GCD mem):=by
 refine ⟨fun c g r=>?_,fun s c t e ht=>?_⟩
 · rw [corY_eq]
   unfold corD
   rw [(rd_sm 32 (by decide)).put (c.name.size:Int) ⟨by omega,g.name⟩]
   have hl:c.name.size=c.name.data.toList.length:=by rw [Array.length_toList];rfl
   simp only [Int.toNat_natCast]
   rw [if_neg (by rw [List.length_append,hl];omega),hl,List.drop_left,List.take_left,List.append_assoc,(rd_sm 16384 (by decide)).put (c.code.length:Int) ⟨by omega,g.code.1⟩]
   simp only [Int.toNat_natCast]
   rw [rep_put (rd_inD c.code.length mem (by have:=g.code.1;omega) hm) c.code g.code.2 r]
 · unfold corD at e
   rcases h1:smR 32 s with ⟨n,s1⟩
   rw [h1] at e
   simp only at e
   by_cases hb:(s1.1.length:Int)<n
   · rw [if_pos hb] at e
     simp only [Prod.mk.injEq] at e
     rw [← e.2] at ht
     cases ht
   · rw [if_neg hb] at e
     rcases h2:smR 16384 (s1.1.drop n.toNat,s1.2) with ⟨k,s2⟩
     rw [h2] at e
     simp only at e
     rcases h3:repR (insD k mem) k.toNat s2 with ⟨l,s3⟩
     rw [h3] at e
     simp only [Prod.mk.injEq] at e
     obtain ⟨rfl,rfl⟩:=e
     have hk:0≤k∧k≤16384:=by
      have:=smR_bd 16384 (by decide) (s1.1.drop n.toNat,s1.2)
      rw [h2] at this
      exact this
     obtain ⟨b3,p3,q3,e3⟩:=rep_get (rd_inD k mem (by omega) hm) _ _ _ l h3 ht
     obtain ⟨b2,p2,e2⟩:=(rd_sm 16384 (by decide)).get _ _ _ h2 b3
     simp only at b2 e2
     obtain ⟨b1,p1,e1⟩:=(rd_sm 32 (by decide)).get _ _ _ h1 b2
     have hkl:k=(l.length:Int):=by omega
     have hz:((⟨(s1.1.take n.toNat).toArray⟩:ByteArray).size:Int)=n:=by
      simp only [ByteArray.size,List.size_toArray,List.length_take]
      omega
     refine ⟨b1,⟨by simp only;rw [hz];exact p1.2,by simp only;omega,by simp only;rw [← hkl];exact p3⟩,?_⟩
     rw [corY_eq]
     simp only
     rw [hz,e1,← hkl,List.append_assoc,← e3,← e2,List.take_append_drop]
def obD (s:Bst):Ob × Bst :=
 let sh:=smR 64 s
 let lk:=smR 16 sh.2
 let bf:=smR 16 lk.2
 let n:=smR 4096 bf.2
 let mem:=repR wdR n.1.toNat n.2
 let m:=smR 8 mem.2
 let cs:=repR (corD n.1) m.1.toNat m.2
 (⟨mem.1,sh.1,lk.1,bf.1,cs.1⟩,cs.2)
structure GOD (o:Ob):Prop where
 sh:0≤o.sh∧o.sh≤64
 lk:0≤o.lk∧o.lk≤16
 bf:0≤o.bf∧o.bf≤16
 mem:(o.mem.length:Int)≤4096∧∀ x∈o.mem,I64 x
 cores:(o.cores.length:Int)≤8∧∀ c∈o.cores,GCD o.mem.length c
theorem obD_put (o:Ob) (g:GOD o) (r:List UInt8):obD ((obY o++r).drop 4,false)=(o,(r,false)):=by
 rw [obY_eq,show (magic++_:List UInt8).drop 4=_ from List.drop_left (l₁:=magic)]
 unfold obD
 rw [(rd_sm 64 (by decide)).put o.sh g.sh]
 simp only
 rw [(rd_sm 16 (by decide)).put o.lk g.lk]
 simp only
 rw [(rd_sm 16 (by decide)).put o.bf g.bf]
 simp only
 rw [List.append_assoc,(rd_sm 4096 (by decide)).put (o.mem.length:Int) ⟨by omega,g.mem.1⟩]
 simp only [Int.toNat_natCast]
 rw [rep_put rd_wd o.mem g.mem.2]
 simp only
 rw [List.append_assoc,(rd_sm 8 (by decide)).put (o.cores.length:Int) ⟨by omega,g.cores.1⟩]
 simp only [Int.toNat_natCast]
 rw [rep_put (rd_corD o.mem.length (by have:=g.mem.1;omega)) o.cores g.cores.2]
theorem obD_get (s t:Bst) (o:Ob) (e:obD s=(o,t)) (ht:t.2=false):s.2=false∧GOD o∧magic++s.1=obY o++t.1:=by
 unfold obD at e
 rcases h1:smR 64 s with ⟨sh,s1⟩
 rw [h1] at e
 simp only at e
 rcases h2:smR 16 s1 with ⟨lk,s2⟩
 rw [h2] at e
 simp only at e
 rcases h3:smR 16 s2 with ⟨bf,s3⟩
 rw [h3] at e
 simp only at e
 rcases h4:smR 4096 s3 with ⟨n,s4⟩
 rw [h4] at e
 simp only at e
 rcases h5:repR wdR n.toNat s4 with ⟨mem,s5⟩
 rw [h5] at e
 simp only at e
 rcases h6:smR 8 s5 with ⟨m,s6⟩
 rw [h6] at e
 simp only at e
 rcases h7:repR (corD n) m.toNat s6 with ⟨cs,s7⟩
 rw [h7] at e
 simp only [Prod.mk.injEq] at e
 obtain ⟨rfl,rfl⟩:=e
 have hn:0≤n∧n≤4096:=by
  have:=smR_bd 4096 (by decide) s3
  rw [h4] at this
  exact this
 obtain ⟨b7,p7,q7,e7⟩:=rep_get (rd_corD n (by omega)) _ _ _ cs h7 ht
 obtain ⟨b6,p6,e6⟩:=(rd_sm 8 (by decide)).get _ _ _ h6 b7
 obtain ⟨b5,p5,q5,e5⟩:=rep_get rd_wd _ _ _ mem h5 b6
 obtain ⟨b4,p4,e4⟩:=(rd_sm 4096 (by decide)).get _ _ _ h4 b5
 obtain ⟨b3,p3,e3⟩:=(rd_sm 16 (by decide)).get _ _ _ h3 b4
 obtain ⟨b2,p2,e2⟩:=(rd_sm 16 (by decide)).get _ _ _ h2 b3
 obtain ⟨b1,p1,e1⟩:=(rd_sm 64 (by decide)).get _ _ _ h1 b2
 have hnl:n=(mem.length:Int):=by omega
 have hml:m=(cs.length:Int):=by omega
 refine ⟨b1,⟨p1,p2,p3,⟨by simp only;omega,p5⟩,⟨by simp only;omega,by simp only;rw [← hnl];exact p7⟩⟩,?_⟩
 rw [obY_eq]
 simp only
 rw [e1,e2,e3,e4,e5,e6,e7,hnl,hml]
 simp only [List.append_assoc]
end Go.Proofs.YtmpljhfinmfnbaaGreatDoor

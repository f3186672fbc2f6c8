/- The proof, part 19: texts that belong together, in one. -/
import Derived.Test.YtggbkldniffbfaaGreatDoorTAQ
import Derived.Test.YtggbkldniffbfaaGreatDoorTAR
set_option maxRecDepth 100000
set_option maxHeartbeats 20000000
namespace Go.Proofs.YtggbkldniffbfaaGreatDoor
open Go.RowKit
set_option linter.unusedVariables false
theorem alloc_put (W:World) (o o':Obj):putB (W.alloc o) W.heap.size o'=W.alloc o':=by
 have:(W.heap.push o).setIfInBounds W.heap.size o'=W.heap.push o':=by
  apply Array.ext'
  simp [Array.toList_setIfInBounds]
 unfold putB World.alloc
 rw [this]
theorem size_setRow (W:World) (g:Nat) (cs:Array Value):(W.setRow g cs).heap.size=W.heap.size:=by
 simp [World.setRow]
theorem Below.of_row {B:Nat} {a W:World} (h:Below B a W) {g:Nat} (hg:B≤g) (cs:Array Value):Below B a (W.setRow g cs) :=
 ⟨h.os,h.tape,h.output,by rw [size_setRow];exact h.size,fun k hk=>(setRow_other cs (by omega)).trans (h.block k hk)⟩
theorem ins_new {P:Program} {W:World} {t k e:TypeId} (ht:P.underlying t=some (.map k e)) (hk:P.underlying k=some .string) (es:Array MapEntry) (clock:Nat) (s:ByteArray) (v:Value)
 (hf:Instr.findNow .string (.string s) es.toList 0=some none) :
 (Instr.mapUpdate t (.map (some W.heap.size)) (.string s) v).run P (W.alloc (.map es clock))=.ok () (W.alloc (.map (es.push ⟨.string s,v,clock⟩) (clock+1))):=by
 rw [run_ins ht hk (World.alloc_heap_new W _) s v hf,alloc_put]
def newC (w:World) (ta:Option Addr) (cap:Nat) (toks:List Res) (L:Nat):Par:=⟨w.heap.size,ta,cap,toks,L,w.heap.size+1,w.heap.size+2,w.heap.size+3,w.heap.size+4,w.heap.size+6⟩
theorem p_new {w:World} {ta:Option Addr} {cap:Nat} {toks:List Res} {L:Nat} (ht:TokRow w (.slice ta toks.length cap) toks) (hlt:∀ g off,ta=some ⟨g,off,none⟩→g<w.heap.size) (T:Tabs w) (hs:toks.length≤65536∧L≤65536∧∀ x∈toks,0≤x.wd∧x.wd≤9223372036854775807) :
 Calls Tryz.prog 50 #[.slice ta toks.length cap,.int .i64 (L:Int)] w fun e w'=>e=.returned (newC w ta cap toks L).ptr∧Below w.heap.size w w'∧Rd (newC w ta cap toks L) w' 0:=by
 obtain ⟨n,hn⟩:∃ n,n=toks.length:=⟨_,rfl⟩
 rw [← hn]
 have HT:=Lib.hid (And.intro ht (And.intro hlt (And.intro T hs)))
 have HN:=Lib.hid hn
 clear ht hlt T hs hn
 have hmm:=@run_makeMap Tryz.prog
 go_enter Tryz.func50,Tryz.ntmps50
 go_upto_region 2 with (fail)
 have O1:=Own.new w 108 #[.slice ta n cap,.int .i64 (L:Int),.int .i64 0,.map none,.map none,.map none]
 have B1:=(Below.refl w.heap.size w).alloc (Nat.le_refl _) (.cells #[.slice ta n cap,.int .i64 (L:Int),.int .i64 0,.map none,.map none,.map none] 108)
 have z1:(w.alloc (.cells #[.slice ta n cap,.int .i64 (L:Int),.int .i64 0,.map none,.map none,.map none] 108)).heap.size≤w.heap.size+1∧w.heap.size+1≤(w.alloc (.cells #[.slice ta n cap,.int .i64 (L:Int),.int .i64 0,.map none,.map none,.map none] 108)).heap.size:=by rw [World.size_alloc w (.cells #[.slice ta n cap,.int .i64 (L:Int),.int .i64 0,.map none,.map none,.map none] 108)];omega
 obtain ⟨W1,hW1⟩:∃ W1,W1=w.alloc (.cells #[.slice ta n cap,.int .i64 (L:Int),.int .i64 0,.map none,.map none,.map none] 108):=⟨_,rfl⟩
 rw [← hW1] at O1 B1 z1 ⊢
 clear hW1
 have hI0:(Instr.mapUpdate 104 (.map (some W1.heap.size)) (.string ⟨#[115,104,97,114,101,100]⟩) (.func (.func 88) #[.pointer (some ⟨w.heap.size,0,none⟩)] #[])).run Tryz.prog (W1.alloc (.map #[] 0))=.ok () (W1.alloc (.map #[⟨.string ⟨#[115,104,97,114,101,100]⟩,.func (.func 88) #[.pointer (some ⟨w.heap.size,0,none⟩)] #[],0⟩] 1)):=ins_new Tryz.underlying104 Tryz.underlying9 #[] 0 ⟨#[115,104,97,114,101,100]⟩ (.func (.func 88) #[.pointer (some ⟨w.heap.size,0,none⟩)] #[]) (by kernel_rfl)
 have hI1:(Instr.mapUpdate 104 (.map (some W1.heap.size)) (.string ⟨#[108,111,99,107]⟩) (.func (.func 89) #[.pointer (some ⟨w.heap.size,0,none⟩)] #[])).run Tryz.prog (W1.alloc (.map #[⟨.string ⟨#[115,104,97,114,101,100]⟩,.func (.func 88) #[.pointer (some ⟨w.heap.size,0,none⟩)] #[],0⟩] 1))=.ok () (W1.alloc (.map #[⟨.string ⟨#[115,104,97,114,101,100]⟩,.func (.func 88) #[.pointer (some ⟨w.heap.size,0,none⟩)] #[],0⟩,⟨.string ⟨#[108,111,99,107]⟩,.func (.func 89) #[.pointer (some ⟨w.heap.size,0,none⟩)] #[],1⟩] 2)):=ins_new Tryz.underlying104 Tryz.underlying9 #[⟨.string ⟨#[115,104,97,114,101,100]⟩,.func (.func 88) #[.pointer (some ⟨w.heap.size,0,none⟩)] #[],0⟩] 1 ⟨#[108,111,99,107]⟩ (.func (.func 89) #[.pointer (some ⟨w.heap.size,0,none⟩)] #[]) (by kernel_rfl)
 have Q1:=O1.alloc (.map #[⟨.string ⟨#[115,104,97,114,101,100]⟩,.func (.func 88) #[.pointer (some ⟨w.heap.size,0,none⟩)] #[],0⟩,⟨.string ⟨#[108,111,99,107]⟩,.func (.func 89) #[.pointer (some ⟨w.heap.size,0,none⟩)] #[],1⟩] 2)
 have c1:(W1.alloc (.map #[⟨.string ⟨#[115,104,97,114,101,100]⟩,.func (.func 88) #[.pointer (some ⟨w.heap.size,0,none⟩)] #[],0⟩,⟨.string ⟨#[108,111,99,107]⟩,.func (.func 89) #[.pointer (some ⟨w.heap.size,0,none⟩)] #[],1⟩] 2)).cell? ⟨w.heap.size,3,none⟩=some (.map none):=by rw [cell_of_row _ w.heap.size 3 _ _ _ Q1];rfl
 have f1:=own_frozen Q1 3
 go_upto_region 3 with (fail)
 have E1:(W1.alloc (.map #[⟨.string ⟨#[115,104,97,114,101,100]⟩,.func (.func 88) #[.pointer (some ⟨w.heap.size,0,none⟩)] #[],0⟩,⟨.string ⟨#[108,111,99,107]⟩,.func (.func 89) #[.pointer (some ⟨w.heap.size,0,none⟩)] #[],1⟩] 2)).setCell ⟨w.heap.size,3,none⟩ (.map (some W1.heap.size))=(W1.alloc (.map #[⟨.string ⟨#[115,104,97,114,101,100]⟩,.func (.func 88) #[.pointer (some ⟨w.heap.size,0,none⟩)] #[],0⟩,⟨.string ⟨#[108,111,99,107]⟩,.func (.func 89) #[.pointer (some ⟨w.heap.size,0,none⟩)] #[],1⟩] 2)).setRow w.heap.size #[.slice ta n cap,.int .i64 (L:Int),.int .i64 0,.map (some W1.heap.size),.map none,.map none]:=setCell_row Q1 3 _
 rw [E1]
 clear E1
 have O2:=Q1.row #[.slice ta n cap,.int .i64 (L:Int),.int .i64 0,.map (some W1.heap.size),.map none,.map none]
 have M1:((W1.alloc (.map #[⟨.string ⟨#[115,104,97,114,101,100]⟩,.func (.func 88) #[.pointer (some ⟨w.heap.size,0,none⟩)] #[],0⟩,⟨.string ⟨#[108,111,99,107]⟩,.func (.func 89) #[.pointer (some ⟨w.heap.size,0,none⟩)] #[],1⟩] 2)).setRow w.heap.size #[.slice ta n cap,.int .i64 (L:Int),.int .i64 0,.map (some W1.heap.size),.map none,.map none]).heap[W1.heap.size]? = some (.map #[⟨.string ⟨#[115,104,97,114,101,100]⟩,.func (.func 88) #[.pointer (some ⟨w.heap.size,0,none⟩)] #[],0⟩,⟨.string ⟨#[108,111,99,107]⟩,.func (.func 89) #[.pointer (some ⟨w.heap.size,0,none⟩)] #[],1⟩] 2):=(setRow_other _ (by omega)).trans (World.alloc_heap_new W1 _)
 have B2:=Below.of_row (B1.alloc (by omega) (.map #[⟨.string ⟨#[115,104,97,114,101,100]⟩,.func (.func 88) #[.pointer (some ⟨w.heap.size,0,none⟩)] #[],0⟩,⟨.string ⟨#[108,111,99,107]⟩,.func (.func 89) #[.pointer (some ⟨w.heap.size,0,none⟩)] #[],1⟩] 2)) (Nat.le_refl _) #[.slice ta n cap,.int .i64 (L:Int),.int .i64 0,.map (some W1.heap.size),.map none,.map none]
 have z2:((W1.alloc (.map #[⟨.string ⟨#[115,104,97,114,101,100]⟩,.func (.func 88) #[.pointer (some ⟨w.heap.size,0,none⟩)] #[],0⟩,⟨.string ⟨#[108,111,99,107]⟩,.func (.func 89) #[.pointer (some ⟨w.heap.size,0,none⟩)] #[],1⟩] 2)).setRow w.heap.size #[.slice ta n cap,.int .i64 (L:Int),.int .i64 0,.map (some W1.heap.size),.map none,.map none]).heap.size≤W1.heap.size+1∧W1.heap.size+1≤((W1.alloc (.map #[⟨.string ⟨#[115,104,97,114,101,100]⟩,.func (.func 88) #[.pointer (some ⟨w.heap.size,0,none⟩)] #[],0⟩,⟨.string ⟨#[108,111,99,107]⟩,.func (.func 89) #[.pointer (some ⟨w.heap.size,0,none⟩)] #[],1⟩] 2)).setRow w.heap.size #[.slice ta n cap,.int .i64 (L:Int),.int .i64 0,.map (some W1.heap.size),.map none,.map none]).heap.size:=by rw [(size_setRow (W1.alloc (.map #[⟨.string ⟨#[115,104,97,114,101,100]⟩,.func (.func 88) #[.pointer (some ⟨w.heap.size,0,none⟩)] #[],0⟩,⟨.string ⟨#[108,111,99,107]⟩,.func (.func 89) #[.pointer (some ⟨w.heap.size,0,none⟩)] #[],1⟩] 2)) w.heap.size #[.slice ta n cap,.int .i64 (L:Int),.int .i64 0,.map (some W1.heap.size),.map none,.map none]).trans (World.size_alloc _ _)];omega
 obtain ⟨W2,hW2⟩:∃ W,W=(W1.alloc (.map #[⟨.string ⟨#[115,104,97,114,101,100]⟩,.func (.func 88) #[.pointer (some ⟨w.heap.size,0,none⟩)] #[],0⟩,⟨.string ⟨#[108,111,99,107]⟩,.func (.func 89) #[.pointer (some ⟨w.heap.size,0,none⟩)] #[],1⟩] 2)).setRow w.heap.size #[.slice ta n cap,.int .i64 (L:Int),.int .i64 0,.map (some W1.heap.size),.map none,.map none]:=⟨_,rfl⟩
 rw [← hW2] at O2 M1 B2 z2 ⊢
 clear hW2 Q1 c1 f1 hI0 hI1 O1 B1
 have hI0:(Instr.mapUpdate 105 (.map (some W2.heap.size)) (.string ⟨#[105,102]⟩) (.func (.func 90) #[.pointer (some ⟨w.heap.size,0,none⟩)] #[])).run Tryz.prog (W2.alloc (.map #[] 0))=.ok () (W2.alloc (.map #[⟨.string ⟨#[105,102]⟩,.func (.func 90) #[.pointer (some ⟨w.heap.size,0,none⟩)] #[],0⟩] 1)):=ins_new Tryz.underlying105 Tryz.underlying9 #[] 0 ⟨#[105,102]⟩ (.func (.func 90) #[.pointer (some ⟨w.heap.size,0,none⟩)] #[]) (by kernel_rfl)
 have hI1:(Instr.mapUpdate 105 (.map (some W2.heap.size)) (.string ⟨#[119,104,105,108,101]⟩) (.func (.func 91) #[.pointer (some ⟨w.heap.size,0,none⟩)] #[])).run Tryz.prog (W2.alloc (.map #[⟨.string ⟨#[105,102]⟩,.func (.func 90) #[.pointer (some ⟨w.heap.size,0,none⟩)] #[],0⟩] 1))=.ok () (W2.alloc (.map #[⟨.string ⟨#[105,102]⟩,.func (.func 90) #[.pointer (some ⟨w.heap.size,0,none⟩)] #[],0⟩,⟨.string ⟨#[119,104,105,108,101]⟩,.func (.func 91) #[.pointer (some ⟨w.heap.size,0,none⟩)] #[],1⟩] 2)):=ins_new Tryz.underlying105 Tryz.underlying9 #[⟨.string ⟨#[105,102]⟩,.func (.func 90) #[.pointer (some ⟨w.heap.size,0,none⟩)] #[],0⟩] 1 ⟨#[119,104,105,108,101]⟩ (.func (.func 91) #[.pointer (some ⟨w.heap.size,0,none⟩)] #[]) (by kernel_rfl)
 have hI2:(Instr.mapUpdate 105 (.map (some W2.heap.size)) (.string ⟨#[108,111,99,107]⟩) (.func (.func 92) #[.pointer (some ⟨w.heap.size,0,none⟩)] #[])).run Tryz.prog (W2.alloc (.map #[⟨.string ⟨#[105,102]⟩,.func (.func 90) #[.pointer (some ⟨w.heap.size,0,none⟩)] #[],0⟩,⟨.string ⟨#[119,104,105,108,101]⟩,.func (.func 91) #[.pointer (some ⟨w.heap.size,0,none⟩)] #[],1⟩] 2))=.ok () (W2.alloc (.map #[⟨.string ⟨#[105,102]⟩,.func (.func 90) #[.pointer (some ⟨w.heap.size,0,none⟩)] #[],0⟩,⟨.string ⟨#[119,104,105,108,101]⟩,.func (.func 91) #[.pointer (some ⟨w.heap.size,0,none⟩)] #[],1⟩,⟨.string ⟨#[108,111,99,107]⟩,.func (.func 92) #[.pointer (some ⟨w.heap.size,0,none⟩)] #[],2⟩] 3)):=ins_new Tryz.underlying105 Tryz.underlying9 #[⟨.string ⟨#[105,102]⟩,.func (.func 90) #[.pointer (some ⟨w.heap.size,0,none⟩)] #[],0⟩,⟨.string ⟨#[119,104,105,108,101]⟩,.func (.func 91) #[.pointer (some ⟨w.heap.size,0,none⟩)] #[],1⟩] 2 ⟨#[108,111,99,107]⟩ (.func (.func 92) #[.pointer (some ⟨w.heap.size,0,none⟩)] #[]) (by kernel_rfl)
 have hI3:(Instr.mapUpdate 105 (.map (some W2.heap.size)) (.string ⟨#[112,114,105,110,116]⟩) (.func (.func 93) #[.pointer (some ⟨w.heap.size,0,none⟩)] #[])).run Tryz.prog (W2.alloc (.map #[⟨.string ⟨#[105,102]⟩,.func (.func 90) #[.pointer (some ⟨w.heap.size,0,none⟩)] #[],0⟩,⟨.string ⟨#[119,104,105,108,101]⟩,.func (.func 91) #[.pointer (some ⟨w.heap.size,0,none⟩)] #[],1⟩,⟨.string ⟨#[108,111,99,107]⟩,.func (.func 92) #[.pointer (some ⟨w.heap.size,0,none⟩)] #[],2⟩] 3))=.ok () (W2.alloc (.map #[⟨.string ⟨#[105,102]⟩,.func (.func 90) #[.pointer (some ⟨w.heap.size,0,none⟩)] #[],0⟩,⟨.string ⟨#[119,104,105,108,101]⟩,.func (.func 91) #[.pointer (some ⟨w.heap.size,0,none⟩)] #[],1⟩,⟨.string ⟨#[108,111,99,107]⟩,.func (.func 92) #[.pointer (some ⟨w.heap.size,0,none⟩)] #[],2⟩,⟨.string ⟨#[112,114,105,110,116]⟩,.func (.func 93) #[.pointer (some ⟨w.heap.size,0,none⟩)] #[],3⟩] 4)):=ins_new Tryz.underlying105 Tryz.underlying9 #[⟨.string ⟨#[105,102]⟩,.func (.func 90) #[.pointer (some ⟨w.heap.size,0,none⟩)] #[],0⟩,⟨.string ⟨#[119,104,105,108,101]⟩,.func (.func 91) #[.pointer (some ⟨w.heap.size,0,none⟩)] #[],1⟩,⟨.string ⟨#[108,111,99,107]⟩,.func (.func 92) #[.pointer (some ⟨w.heap.size,0,none⟩)] #[],2⟩] 3 ⟨#[112,114,105,110,116]⟩ (.func (.func 93) #[.pointer (some ⟨w.heap.size,0,none⟩)] #[]) (by kernel_rfl)
 have hI4:(Instr.mapUpdate 105 (.map (some W2.heap.size)) (.string ⟨#[115,107,105,112]⟩) (.func (.func 94) #[.pointer (some ⟨w.heap.size,0,none⟩)] #[])).run Tryz.prog (W2.alloc (.map #[⟨.string ⟨#[105,102]⟩,.func (.func 90) #[.pointer (some ⟨w.heap.size,0,none⟩)] #[],0⟩,⟨.string ⟨#[119,104,105,108,101]⟩,.func (.func 91) #[.pointer (some ⟨w.heap.size,0,none⟩)] #[],1⟩,⟨.string ⟨#[108,111,99,107]⟩,.func (.func 92) #[.pointer (some ⟨w.heap.size,0,none⟩)] #[],2⟩,⟨.string ⟨#[112,114,105,110,116]⟩,.func (.func 93) #[.pointer (some ⟨w.heap.size,0,none⟩)] #[],3⟩] 4))=.ok () (W2.alloc (.map #[⟨.string ⟨#[105,102]⟩,.func (.func 90) #[.pointer (some ⟨w.heap.size,0,none⟩)] #[],0⟩,⟨.string ⟨#[119,104,105,108,101]⟩,.func (.func 91) #[.pointer (some ⟨w.heap.size,0,none⟩)] #[],1⟩,⟨.string ⟨#[108,111,99,107]⟩,.func (.func 92) #[.pointer (some ⟨w.heap.size,0,none⟩)] #[],2⟩,⟨.string ⟨#[112,114,105,110,116]⟩,.func (.func 93) #[.pointer (some ⟨w.heap.size,0,none⟩)] #[],3⟩,⟨.string ⟨#[115,107,105,112]⟩,.func (.func 94) #[.pointer (some ⟨w.heap.size,0,none⟩)] #[],4⟩] 5)):=ins_new Tryz.underlying105 Tryz.underlying9 #[⟨.string ⟨#[105,102]⟩,.func (.func 90) #[.pointer (some ⟨w.heap.size,0,none⟩)] #[],0⟩,⟨.string ⟨#[119,104,105,108,101]⟩,.func (.func 91) #[.pointer (some ⟨w.heap.size,0,none⟩)] #[],1⟩,⟨.string ⟨#[108,111,99,107]⟩,.func (.func 92) #[.pointer (some ⟨w.heap.size,0,none⟩)] #[],2⟩,⟨.string ⟨#[112,114,105,110,116]⟩,.func (.func 93) #[.pointer (some ⟨w.heap.size,0,none⟩)] #[],3⟩] 4 ⟨#[115,107,105,112]⟩ (.func (.func 94) #[.pointer (some ⟨w.heap.size,0,none⟩)] #[]) (by kernel_rfl)
 have Q2:=O2.alloc (.map #[⟨.string ⟨#[105,102]⟩,.func (.func 90) #[.pointer (some ⟨w.heap.size,0,none⟩)] #[],0⟩,⟨.string ⟨#[119,104,105,108,101]⟩,.func (.func 91) #[.pointer (some ⟨w.heap.size,0,none⟩)] #[],1⟩,⟨.string ⟨#[108,111,99,107]⟩,.func (.func 92) #[.pointer (some ⟨w.heap.size,0,none⟩)] #[],2⟩,⟨.string ⟨#[112,114,105,110,116]⟩,.func (.func 93) #[.pointer (some ⟨w.heap.size,0,none⟩)] #[],3⟩,⟨.string ⟨#[115,107,105,112]⟩,.func (.func 94) #[.pointer (some ⟨w.heap.size,0,none⟩)] #[],4⟩] 5)
 have c2:(W2.alloc (.map #[⟨.string ⟨#[105,102]⟩,.func (.func 90) #[.pointer (some ⟨w.heap.size,0,none⟩)] #[],0⟩,⟨.string ⟨#[119,104,105,108,101]⟩,.func (.func 91) #[.pointer (some ⟨w.heap.size,0,none⟩)] #[],1⟩,⟨.string ⟨#[108,111,99,107]⟩,.func (.func 92) #[.pointer (some ⟨w.heap.size,0,none⟩)] #[],2⟩,⟨.string ⟨#[112,114,105,110,116]⟩,.func (.func 93) #[.pointer (some ⟨w.heap.size,0,none⟩)] #[],3⟩,⟨.string ⟨#[115,107,105,112]⟩,.func (.func 94) #[.pointer (some ⟨w.heap.size,0,none⟩)] #[],4⟩] 5)).cell? ⟨w.heap.size,4,none⟩=some (.map none):=by rw [cell_of_row _ w.heap.size 4 _ _ _ Q2];rfl
 have f2:=own_frozen Q2 4
 go_upto_region 4 with (fail)
 have E2:(W2.alloc (.map #[⟨.string ⟨#[105,102]⟩,.func (.func 90) #[.pointer (some ⟨w.heap.size,0,none⟩)] #[],0⟩,⟨.string ⟨#[119,104,105,108,101]⟩,.func (.func 91) #[.pointer (some ⟨w.heap.size,0,none⟩)] #[],1⟩,⟨.string ⟨#[108,111,99,107]⟩,.func (.func 92) #[.pointer (some ⟨w.heap.size,0,none⟩)] #[],2⟩,⟨.string ⟨#[112,114,105,110,116]⟩,.func (.func 93) #[.pointer (some ⟨w.heap.size,0,none⟩)] #[],3⟩,⟨.string ⟨#[115,107,105,112]⟩,.func (.func 94) #[.pointer (some ⟨w.heap.size,0,none⟩)] #[],4⟩] 5)).setCell ⟨w.heap.size,4,none⟩ (.map (some W2.heap.size))=(W2.alloc (.map #[⟨.string ⟨#[105,102]⟩,.func (.func 90) #[.pointer (some ⟨w.heap.size,0,none⟩)] #[],0⟩,⟨.string ⟨#[119,104,105,108,101]⟩,.func (.func 91) #[.pointer (some ⟨w.heap.size,0,none⟩)] #[],1⟩,⟨.string ⟨#[108,111,99,107]⟩,.func (.func 92) #[.pointer (some ⟨w.heap.size,0,none⟩)] #[],2⟩,⟨.string ⟨#[112,114,105,110,116]⟩,.func (.func 93) #[.pointer (some ⟨w.heap.size,0,none⟩)] #[],3⟩,⟨.string ⟨#[115,107,105,112]⟩,.func (.func 94) #[.pointer (some ⟨w.heap.size,0,none⟩)] #[],4⟩] 5)).setRow w.heap.size #[.slice ta n cap,.int .i64 (L:Int),.int .i64 0,.map (some W1.heap.size),.map (some W2.heap.size),.map none]:=setCell_row Q2 4 _
 rw [E2]
 clear E2
 have O3:=Q2.row #[.slice ta n cap,.int .i64 (L:Int),.int .i64 0,.map (some W1.heap.size),.map (some W2.heap.size),.map none]
 have M1:((W2.alloc (.map #[⟨.string ⟨#[105,102]⟩,.func (.func 90) #[.pointer (some ⟨w.heap.size,0,none⟩)] #[],0⟩,⟨.string ⟨#[119,104,105,108,101]⟩,.func (.func 91) #[.pointer (some ⟨w.heap.size,0,none⟩)] #[],1⟩,⟨.string ⟨#[108,111,99,107]⟩,.func (.func 92) #[.pointer (some ⟨w.heap.size,0,none⟩)] #[],2⟩,⟨.string ⟨#[112,114,105,110,116]⟩,.func (.func 93) #[.pointer (some ⟨w.heap.size,0,none⟩)] #[],3⟩,⟨.string ⟨#[115,107,105,112]⟩,.func (.func 94) #[.pointer (some ⟨w.heap.size,0,none⟩)] #[],4⟩] 5)).setRow w.heap.size #[.slice ta n cap,.int .i64 (L:Int),.int .i64 0,.map (some W1.heap.size),.map (some W2.heap.size),.map none]).heap[W1.heap.size]? = _:=(setRow_other _ (by omega)).trans ((((Below.refl W2.heap.size W2).alloc (Nat.le_refl _) _).block _ (by omega)).trans M1)
 have M2:((W2.alloc (.map #[⟨.string ⟨#[105,102]⟩,.func (.func 90) #[.pointer (some ⟨w.heap.size,0,none⟩)] #[],0⟩,⟨.string ⟨#[119,104,105,108,101]⟩,.func (.func 91) #[.pointer (some ⟨w.heap.size,0,none⟩)] #[],1⟩,⟨.string ⟨#[108,111,99,107]⟩,.func (.func 92) #[.pointer (some ⟨w.heap.size,0,none⟩)] #[],2⟩,⟨.string ⟨#[112,114,105,110,116]⟩,.func (.func 93) #[.pointer (some ⟨w.heap.size,0,none⟩)] #[],3⟩,⟨.string ⟨#[115,107,105,112]⟩,.func (.func 94) #[.pointer (some ⟨w.heap.size,0,none⟩)] #[],4⟩] 5)).setRow w.heap.size #[.slice ta n cap,.int .i64 (L:Int),.int .i64 0,.map (some W1.heap.size),.map (some W2.heap.size),.map none]).heap[W2.heap.size]? = some (.map #[⟨.string ⟨#[105,102]⟩,.func (.func 90) #[.pointer (some ⟨w.heap.size,0,none⟩)] #[],0⟩,⟨.string ⟨#[119,104,105,108,101]⟩,.func (.func 91) #[.pointer (some ⟨w.heap.size,0,none⟩)] #[],1⟩,⟨.string ⟨#[108,111,99,107]⟩,.func (.func 92) #[.pointer (some ⟨w.heap.size,0,none⟩)] #[],2⟩,⟨.string ⟨#[112,114,105,110,116]⟩,.func (.func 93) #[.pointer (some ⟨w.heap.size,0,none⟩)] #[],3⟩,⟨.string ⟨#[115,107,105,112]⟩,.func (.func 94) #[.pointer (some ⟨w.heap.size,0,none⟩)] #[],4⟩] 5):=(setRow_other _ (by omega)).trans (World.alloc_heap_new W2 _)
 have B3:=Below.of_row (B2.alloc (by omega) (.map #[⟨.string ⟨#[105,102]⟩,.func (.func 90) #[.pointer (some ⟨w.heap.size,0,none⟩)] #[],0⟩,⟨.string ⟨#[119,104,105,108,101]⟩,.func (.func 91) #[.pointer (some ⟨w.heap.size,0,none⟩)] #[],1⟩,⟨.string ⟨#[108,111,99,107]⟩,.func (.func 92) #[.pointer (some ⟨w.heap.size,0,none⟩)] #[],2⟩,⟨.string ⟨#[112,114,105,110,116]⟩,.func (.func 93) #[.pointer (some ⟨w.heap.size,0,none⟩)] #[],3⟩,⟨.string ⟨#[115,107,105,112]⟩,.func (.func 94) #[.pointer (some ⟨w.heap.size,0,none⟩)] #[],4⟩] 5)) (Nat.le_refl _) #[.slice ta n cap,.int .i64 (L:Int),.int .i64 0,.map (some W1.heap.size),.map (some W2.heap.size),.map none]
 have z3:((W2.alloc (.map #[⟨.string ⟨#[105,102]⟩,.func (.func 90) #[.pointer (some ⟨w.heap.size,0,none⟩)] #[],0⟩,⟨.string ⟨#[119,104,105,108,101]⟩,.func (.func 91) #[.pointer (some ⟨w.heap.size,0,none⟩)] #[],1⟩,⟨.string ⟨#[108,111,99,107]⟩,.func (.func 92) #[.pointer (some ⟨w.heap.size,0,none⟩)] #[],2⟩,⟨.string ⟨#[112,114,105,110,116]⟩,.func (.func 93) #[.pointer (some ⟨w.heap.size,0,none⟩)] #[],3⟩,⟨.string ⟨#[115,107,105,112]⟩,.func (.func 94) #[.pointer (some ⟨w.heap.size,0,none⟩)] #[],4⟩] 5)).setRow w.heap.size #[.slice ta n cap,.int .i64 (L:Int),.int .i64 0,.map (some W1.heap.size),.map (some W2.heap.size),.map none]).heap.size≤W2.heap.size+1∧W2.heap.size+1≤((W2.alloc (.map #[⟨.string ⟨#[105,102]⟩,.func (.func 90) #[.pointer (some ⟨w.heap.size,0,none⟩)] #[],0⟩,⟨.string ⟨#[119,104,105,108,101]⟩,.func (.func 91) #[.pointer (some ⟨w.heap.size,0,none⟩)] #[],1⟩,⟨.string ⟨#[108,111,99,107]⟩,.func (.func 92) #[.pointer (some ⟨w.heap.size,0,none⟩)] #[],2⟩,⟨.string ⟨#[112,114,105,110,116]⟩,.func (.func 93) #[.pointer (some ⟨w.heap.size,0,none⟩)] #[],3⟩,⟨.string ⟨#[115,107,105,112]⟩,.func (.func 94) #[.pointer (some ⟨w.heap.size,0,none⟩)] #[],4⟩] 5)).setRow w.heap.size #[.slice ta n cap,.int .i64 (L:Int),.int .i64 0,.map (some W1.heap.size),.map (some W2.heap.size),.map none]).heap.size:=by rw [(size_setRow (W2.alloc (.map #[⟨.string ⟨#[105,102]⟩,.func (.func 90) #[.pointer (some ⟨w.heap.size,0,none⟩)] #[],0⟩,⟨.string ⟨#[119,104,105,108,101]⟩,.func (.func 91) #[.pointer (some ⟨w.heap.size,0,none⟩)] #[],1⟩,⟨.string ⟨#[108,111,99,107]⟩,.func (.func 92) #[.pointer (some ⟨w.heap.size,0,none⟩)] #[],2⟩,⟨.string ⟨#[112,114,105,110,116]⟩,.func (.func 93) #[.pointer (some ⟨w.heap.size,0,none⟩)] #[],3⟩,⟨.string ⟨#[115,107,105,112]⟩,.func (.func 94) #[.pointer (some ⟨w.heap.size,0,none⟩)] #[],4⟩] 5)) w.heap.size #[.slice ta n cap,.int .i64 (L:Int),.int .i64 0,.map (some W1.heap.size),.map (some W2.heap.size),.map none]).trans (World.size_alloc _ _)];omega
 obtain ⟨W3,hW3⟩:∃ W,W=(W2.alloc (.map #[⟨.string ⟨#[105,102]⟩,.func (.func 90) #[.pointer (some ⟨w.heap.size,0,none⟩)] #[],0⟩,⟨.string ⟨#[119,104,105,108,101]⟩,.func (.func 91) #[.pointer (some ⟨w.heap.size,0,none⟩)] #[],1⟩,⟨.string ⟨#[108,111,99,107]⟩,.func (.func 92) #[.pointer (some ⟨w.heap.size,0,none⟩)] #[],2⟩,⟨.string ⟨#[112,114,105,110,116]⟩,.func (.func 93) #[.pointer (some ⟨w.heap.size,0,none⟩)] #[],3⟩,⟨.string ⟨#[115,107,105,112]⟩,.func (.func 94) #[.pointer (some ⟨w.heap.size,0,none⟩)] #[],4⟩] 5)).setRow w.heap.size #[.slice ta n cap,.int .i64 (L:Int),.int .i64 0,.map (some W1.heap.size),.map (some W2.heap.size),.map none]:=⟨_,rfl⟩
 rw [← hW3] at O3 M1 M2 B3 z3 ⊢
 clear hW3 Q2 c2 f2 hI0 hI1 hI2 hI3 hI4 O2 B2
 have K3:Below W3.heap.size W3 (W3.alloc (.map #[] 0)):=(Below.refl _ W3).alloc (Nat.le_refl _) _
 have N3:(W3.alloc (.map #[] 0)).heap[W3.heap.size]? = some (.map #[] 0):=World.alloc_heap_new W3 _
 have y3:=World.size_alloc W3 (.map #[] 0)
 go_wp2_with fail
 go_at_call 95
 refine (p_mkunary _ _).mono ?_
 rintro e w4 ⟨rfl,hw4⟩
 rw [World.size_alloc]
 generalize W3.alloc (.map #[] 0)=V3 at K3 N3 y3 hw4
 have z4:w4.heap.size≤W3.heap.size+3∧W3.heap.size+3≤w4.heap.size:=by rw [hw4,World.size_alloc,World.size_alloc,y3];omega
 have D4:Below V3.heap.size V3 w4:=by rw [hw4];exact ((Below.refl _ V3).alloc (Nat.le_refl _) _).alloc (by rw [World.size_alloc];omega) _
 have b42:w4.heap[W3.heap.size+1+1]? = some (.cells #[.int .u8 17] 27 (0,0)):=by
  rw [hw4,← y3,← World.size_alloc V3];exact World.alloc_heap_new _ _
 have b41:w4.heap[W3.heap.size+1]? = some (.cells #[.pointer (some ⟨w.heap.size,0,none⟩)] 68 (0,0)):=by
  rw [hw4,← y3,Below.heap_alloc _ _ _ (by rw [World.size_alloc];omega)];exact World.alloc_heap_new _ _
 clear hw4
 have N4:=(D4.block W3.heap.size (by omega)).trans N3
 have K4:=K3.trans (D4.mono (by omega))
 clear N3 K3 D4 y3
 have hI0:(Instr.mapUpdate 106 (.map (some W3.heap.size)) (.string ⟨#[45]⟩) (.func (.func 128) #[] #[.pointer (some ⟨W3.heap.size+1,0,none⟩),.pointer (some ⟨W3.heap.size+1+1,0,none⟩)])).run Tryz.prog w4=.ok () (putB w4 W3.heap.size (.map #[⟨.string ⟨#[45]⟩,.func (.func 128) #[] #[.pointer (some ⟨W3.heap.size+1,0,none⟩),.pointer (some ⟨W3.heap.size+1+1,0,none⟩)],0⟩] 1)):=run_ins Tryz.underlying106 Tryz.underlying9 N4 ⟨#[45]⟩ (.func (.func 128) #[] #[.pointer (some ⟨W3.heap.size+1,0,none⟩),.pointer (some ⟨W3.heap.size+1+1,0,none⟩)]) (by kernel_rfl)
 go_wp2_with fail
 obtain ⟨w5,hw5⟩:∃ W,W=putB w4 W3.heap.size (.map #[⟨.string ⟨#[45]⟩,.func (.func 128) #[] #[.pointer (some ⟨W3.heap.size+1,0,none⟩),.pointer (some ⟨W3.heap.size+1+1,0,none⟩)],0⟩] 1):=⟨_,rfl⟩
 rw [← hw5]
 have z5:w5.heap.size≤W3.heap.size+3∧W3.heap.size+3≤w5.heap.size:=by rw [hw5,putB_size];omega
 have N5:w5.heap[W3.heap.size]? = some (.map #[⟨.string ⟨#[45]⟩,.func (.func 128) #[] #[.pointer (some ⟨W3.heap.size+1,0,none⟩),.pointer (some ⟨W3.heap.size+1+1,0,none⟩)],0⟩] 1):=by rw [hw5];exact putB_same _ (by omega)
 have b51:=(putB_other (w:=w4) (r:=W3.heap.size) (.map #[⟨.string ⟨#[45]⟩,.func (.func 128) #[] #[.pointer (some ⟨W3.heap.size+1,0,none⟩),.pointer (some ⟨W3.heap.size+1+1,0,none⟩)],0⟩] 1) (by omega)).trans b41
 have b52:=(putB_other (w:=w4) (r:=W3.heap.size) (.map #[⟨.string ⟨#[45]⟩,.func (.func 128) #[] #[.pointer (some ⟨W3.heap.size+1,0,none⟩),.pointer (some ⟨W3.heap.size+1+1,0,none⟩)],0⟩] 1) (by omega)).trans b42
 have K5:=putB_below (.map #[⟨.string ⟨#[45]⟩,.func (.func 128) #[] #[.pointer (some ⟨W3.heap.size+1,0,none⟩),.pointer (some ⟨W3.heap.size+1+1,0,none⟩)],0⟩] 1) K4 (Nat.le_refl _)
 rw [← hw5] at b51 b52 K5
 clear hw5 b41 b42 K4 N4 hI0
 go_at_call 95
 refine (p_mkunary _ _).mono ?_
 rintro e w6 ⟨rfl,hw6⟩
 have y5:w5.heap.size=W3.heap.size+3:=by omega
 rw [y5]
 have z6:w6.heap.size≤W3.heap.size+5∧W3.heap.size+5≤w6.heap.size:=by rw [hw6,World.size_alloc,World.size_alloc,y5];omega
 have D6:Below w5.heap.size w5 w6:=by rw [hw6];exact ((Below.refl _ w5).alloc (Nat.le_refl _) _).alloc (by rw [World.size_alloc];omega) _
 have b64:w6.heap[W3.heap.size+3+1]? = some (.cells #[.int .u8 18] 27 (0,0)):=by
  rw [hw6,← y5,← World.size_alloc w5];exact World.alloc_heap_new _ _
 have b63:w6.heap[W3.heap.size+3]? = some (.cells #[.pointer (some ⟨w.heap.size,0,none⟩)] 68 (0,0)):=by
  rw [hw6,← y5,Below.heap_alloc _ _ _ (by rw [World.size_alloc];omega)];exact World.alloc_heap_new _ _
 clear hw6
 have N6:=(D6.block W3.heap.size (by omega)).trans N5
 have b61:=(D6.block (W3.heap.size+1) (by omega)).trans b51
 have b62:=(D6.block (W3.heap.size+1+1) (by omega)).trans b52
 have K6:=K5.trans (D6.mono (by omega))
 clear y5 N5 K5 D6 b51 b52
 have hI1:(Instr.mapUpdate 106 (.map (some W3.heap.size)) (.string ⟨#[33]⟩) (.func (.func 128) #[] #[.pointer (some ⟨W3.heap.size+3,0,none⟩),.pointer (some ⟨W3.heap.size+3+1,0,none⟩)])).run Tryz.prog w6=.ok () (putB w6 W3.heap.size (.map #[⟨.string ⟨#[45]⟩,.func (.func 128) #[] #[.pointer (some ⟨W3.heap.size+1,0,none⟩),.pointer (some ⟨W3.heap.size+1+1,0,none⟩)],0⟩,⟨.string ⟨#[33]⟩,.func (.func 128) #[] #[.pointer (some ⟨W3.heap.size+3,0,none⟩),.pointer (some ⟨W3.heap.size+3+1,0,none⟩)],1⟩] 2)):=run_ins Tryz.underlying106 Tryz.underlying9 N6 ⟨#[33]⟩ (.func (.func 128) #[] #[.pointer (some ⟨W3.heap.size+3,0,none⟩),.pointer (some ⟨W3.heap.size+3+1,0,none⟩)]) (by kernel_rfl)
 have N7:(putB w6 W3.heap.size (.map #[⟨.string ⟨#[45]⟩,.func (.func 128) #[] #[.pointer (some ⟨W3.heap.size+1,0,none⟩),.pointer (some ⟨W3.heap.size+1+1,0,none⟩)],0⟩,⟨.string ⟨#[33]⟩,.func (.func 128) #[] #[.pointer (some ⟨W3.heap.size+3,0,none⟩),.pointer (some ⟨W3.heap.size+3+1,0,none⟩)],1⟩] 2)).heap[W3.heap.size]? = some (.map #[⟨.string ⟨#[45]⟩,.func (.func 128) #[] #[.pointer (some ⟨W3.heap.size+1,0,none⟩),.pointer (some ⟨W3.heap.size+1+1,0,none⟩)],0⟩,⟨.string ⟨#[33]⟩,.func (.func 128) #[] #[.pointer (some ⟨W3.heap.size+3,0,none⟩),.pointer (some ⟨W3.heap.size+3+1,0,none⟩)],1⟩] 2):=putB_same _ (by omega)
 have hI2:(Instr.mapUpdate 106 (.map (some W3.heap.size)) (.string ⟨#[40]⟩) (.func (.func 96) #[.pointer (some ⟨w.heap.size,0,none⟩)] #[])).run Tryz.prog (putB w6 W3.heap.size (.map #[⟨.string ⟨#[45]⟩,.func (.func 128) #[] #[.pointer (some ⟨W3.heap.size+1,0,none⟩),.pointer (some ⟨W3.heap.size+1+1,0,none⟩)],0⟩,⟨.string ⟨#[33]⟩,.func (.func 128) #[] #[.pointer (some ⟨W3.heap.size+3,0,none⟩),.pointer (some ⟨W3.heap.size+3+1,0,none⟩)],1⟩] 2))=.ok () (putB (putB w6 W3.heap.size (.map #[⟨.string ⟨#[45]⟩,.func (.func 128) #[] #[.pointer (some ⟨W3.heap.size+1,0,none⟩),.pointer (some ⟨W3.heap.size+1+1,0,none⟩)],0⟩,⟨.string ⟨#[33]⟩,.func (.func 128) #[] #[.pointer (some ⟨W3.heap.size+3,0,none⟩),.pointer (some ⟨W3.heap.size+3+1,0,none⟩)],1⟩] 2)) W3.heap.size (.map #[⟨.string ⟨#[45]⟩,.func (.func 128) #[] #[.pointer (some ⟨W3.heap.size+1,0,none⟩),.pointer (some ⟨W3.heap.size+1+1,0,none⟩)],0⟩,⟨.string ⟨#[33]⟩,.func (.func 128) #[] #[.pointer (some ⟨W3.heap.size+3,0,none⟩),.pointer (some ⟨W3.heap.size+3+1,0,none⟩)],1⟩,⟨.string ⟨#[40]⟩,.func (.func 96) #[.pointer (some ⟨w.heap.size,0,none⟩)] #[],2⟩] 3)):=run_ins Tryz.underlying106 Tryz.underlying9 N7 ⟨#[40]⟩ (.func (.func 96) #[.pointer (some ⟨w.heap.size,0,none⟩)] #[]) (by kernel_rfl)
 obtain ⟨w8,hw8⟩:∃ W,W=putB (putB w6 W3.heap.size (.map #[⟨.string ⟨#[45]⟩,.func (.func 128) #[] #[.pointer (some ⟨W3.heap.size+1,0,none⟩),.pointer (some ⟨W3.heap.size+1+1,0,none⟩)],0⟩,⟨.string ⟨#[33]⟩,.func (.func 128) #[] #[.pointer (some ⟨W3.heap.size+3,0,none⟩),.pointer (some ⟨W3.heap.size+3+1,0,none⟩)],1⟩] 2)) W3.heap.size (.map #[⟨.string ⟨#[45]⟩,.func (.func 128) #[] #[.pointer (some ⟨W3.heap.size+1,0,none⟩),.pointer (some ⟨W3.heap.size+1+1,0,none⟩)],0⟩,⟨.string ⟨#[33]⟩,.func (.func 128) #[] #[.pointer (some ⟨W3.heap.size+3,0,none⟩),.pointer (some ⟨W3.heap.size+3+1,0,none⟩)],1⟩,⟨.string ⟨#[40]⟩,.func (.func 96) #[.pointer (some ⟨w.heap.size,0,none⟩)] #[],2⟩] 3):=⟨_,rfl⟩
 rw [← hw8] at hI2
 have z8:w8.heap.size≤W3.heap.size+5∧W3.heap.size+5≤w8.heap.size:=by rw [hw8,putB_size,putB_size];omega
 have N8:w8.heap[W3.heap.size]? = some (.map #[⟨.string ⟨#[45]⟩,.func (.func 128) #[] #[.pointer (some ⟨W3.heap.size+1,0,none⟩),.pointer (some ⟨W3.heap.size+1+1,0,none⟩)],0⟩,⟨.string ⟨#[33]⟩,.func (.func 128) #[] #[.pointer (some ⟨W3.heap.size+3,0,none⟩),.pointer (some ⟨W3.heap.size+3+1,0,none⟩)],1⟩,⟨.string ⟨#[40]⟩,.func (.func 96) #[.pointer (some ⟨w.heap.size,0,none⟩)] #[],2⟩] 3):=by rw [hw8];exact putB_same _ (by rw [putB_size];omega)
 have P8:∀ b,b≠W3.heap.size→w8.heap[b]? = w6.heap[b]?:=fun b hb=>by rw [hw8,putB_other _ hb,putB_other _ hb]
 have K8:=putB_below (.map #[⟨.string ⟨#[45]⟩,.func (.func 128) #[] #[.pointer (some ⟨W3.heap.size+1,0,none⟩),.pointer (some ⟨W3.heap.size+1+1,0,none⟩)],0⟩,⟨.string ⟨#[33]⟩,.func (.func 128) #[] #[.pointer (some ⟨W3.heap.size+3,0,none⟩),.pointer (some ⟨W3.heap.size+3+1,0,none⟩)],1⟩,⟨.string ⟨#[40]⟩,.func (.func 96) #[.pointer (some ⟨w.heap.size,0,none⟩)] #[],2⟩] 3) (putB_below (.map #[⟨.string ⟨#[45]⟩,.func (.func 128) #[] #[.pointer (some ⟨W3.heap.size+1,0,none⟩),.pointer (some ⟨W3.heap.size+1+1,0,none⟩)],0⟩,⟨.string ⟨#[33]⟩,.func (.func 128) #[] #[.pointer (some ⟨W3.heap.size+3,0,none⟩),.pointer (some ⟨W3.heap.size+3+1,0,none⟩)],1⟩] 2) K6 (Nat.le_refl _)) (Nat.le_refl _)
 rw [← hw8] at K8
 have b81:=(P8 _ (by omega)).trans b61
 have b82:=(P8 _ (by omega)).trans b62
 have b83:=(P8 _ (by omega)).trans b63
 have b84:=(P8 _ (by omega)).trans b64
 clear hw8 P8 N7 N6 K6 b61 b62 b63 b64
 have Q8:Own w8 w.heap.size 108 #[.slice ta n cap,.int .i64 (L:Int),.int .i64 0,.map (some W1.heap.size),.map (some W2.heap.size),.map none]:=(K8.block _ (by omega)).trans O3
 have c8:w8.cell? ⟨w.heap.size,5,none⟩=some (.map none):=by rw [cell_of_row _ w.heap.size 5 _ _ _ Q8];rfl
 have f8:=own_frozen Q8 5
 go_wp2_with fail
 go_ret
 have E8:w8.setCell ⟨w.heap.size,5,none⟩ (.map (some W3.heap.size))=w8.setRow w.heap.size #[.slice ta n cap,.int .i64 (L:Int),.int .i64 0,.map (some W1.heap.size),.map (some W2.heap.size),.map (some W3.heap.size)]:=setCell_row Q8 5 _
 rw [E8]
 have O9:=Q8.row #[.slice ta n cap,.int .i64 (L:Int),.int .i64 0,.map (some W1.heap.size),.map (some W2.heap.size),.map (some W3.heap.size)]
 have T9:∀ b,b≠w.heap.size→(w8.setRow w.heap.size #[.slice ta n cap,.int .i64 (L:Int),.int .i64 0,.map (some W1.heap.size),.map (some W2.heap.size),.map (some W3.heap.size)]).heap[b]? = w8.heap[b]?:=fun b hb=>setRow_other _ hb
 have L9:=Below.of_row (B3.trans (K8.mono (by omega))) (Nat.le_refl _) #[.slice ta n cap,.int .i64 (L:Int),.int .i64 0,.map (some W1.heap.size),.map (some W2.heap.size),.map (some W3.heap.size)]
 obtain ⟨ht,hlt,T,hs⟩:=HT.out
 have hn:=HN.out
 refine ⟨rfl,L9,⟨⟨?_,?_,?_,?_,?_,?_,?_,?_,?_,?_,?_,?_,hs⟩,?_,Nat.zero_le _⟩⟩
 · exact ht.keep L9
 · intro g off h
   have:=hlt g off h
   show g≠w.heap.size
   omega
 · skip
   rw [show (newC w ta cap toks L).D=W1.heap.size by show w.heap.size+1=_;omega]
   exact (T9 _ (by omega)).trans ((K8.block _ (by omega)).trans M1)
 · skip
   rw [show (newC w ta cap toks L).S=W2.heap.size by show w.heap.size+2=_;omega]
   exact (T9 _ (by omega)).trans ((K8.block _ (by omega)).trans M2)
 · rw [show (newC w ta cap toks L).O = W3.heap.size by show w.heap.size + 3 = _; omega]
   have e1:(newC w ta cap toks L).bm=W3.heap.size+1:=by show w.heap.size+4=_;omega
   have e2:(newC w ta cap toks L).bn=W3.heap.size+3:=by show w.heap.size+6=_;omega
   unfold Par.operE
   rw [e1,e2]
   exact (T9 _ (by omega)).trans N8
 · rw [show (newC w ta cap toks L).bm = W3.heap.size + 1 by show w.heap.size + 4 = _; omega]
   exact (T9 _ (by omega)).trans b81
 · rw [show (newC w ta cap toks L).bm = W3.heap.size + 1 by show w.heap.size + 4 = _; omega]
   exact (T9 _ (by omega)).trans b82
 · rw [show (newC w ta cap toks L).bn = W3.heap.size + 3 by show w.heap.size + 6 = _; omega]
   exact (T9 _ (by omega)).trans b83
 · rw [show (newC w ta cap toks L).bn = W3.heap.size + 3 by show w.heap.size + 6 = _; omega]
   exact (T9 _ (by omega)).trans b84
 · simp only [newC]
   omega
 · have s1 := T.size1
   have s2:=T.size2
   have:=L9.size
   exact ⟨by omega,by omega,fun i hi=>(L9.cell (by exact s1)).trans (T.lev i hi),fun i hi=>(L9.cell (by exact s2)).trans (T.sgn i hi)⟩
 · have s1 := T.size1
   have s2:=T.size2
   simp only [newC]
   omega
 · rw [show (newC w ta cap toks L).D = W1.heap.size by show w.heap.size + 1 = _; omega, show (newC w ta cap toks L).S = W2.heap.size by show w.heap.size + 2 = _; omega, show (newC w ta cap toks L).O = W3.heap.size by show w.heap.size + 3 = _; omega]
   show (w8.setRow w.heap.size #[.slice ta n cap,.int .i64 (L:Int),.int .i64 0,.map (some W1.heap.size),.map (some W2.heap.size),.map (some W3.heap.size)]).heap[w.heap.size]? = some (.cells #[.slice ta toks.length cap,.int .i64 (L:Int),.int .i64 0,.map (some W1.heap.size),.map (some W2.heap.size),.map (some W3.heap.size)] 108 (0,0))
   rw [← hn]
   exact O9
end Go.Proofs.YtggbkldniffbfaaGreatDoor

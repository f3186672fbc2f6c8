/- The proof, part 26: texts that belong together, in one. -/
import Derived.Test.YtimccjlhhjjcpaaGreatDoorVAY
import Derived.Test.YtimccjlhhjjcpaaGreatDoorVAT
import Derived.Deep.AppendLies
import Derived.OwnWalk
set_option maxRecDepth 100000
set_option maxHeartbeats 20000000
namespace Go.Proofs.YtimccjlhhjjcpaaGreatDoor
open Go.RowKit
set_option linter.unusedVariables false
theorem ctEs_len:∀ l:List Ex,l.length≤ctEs l
 | []=>Nat.le_refl _
 | x :: r => by
   have:=ctEs_len r
   obtain ⟨k,o,wd,nm,ks,ps⟩:=x
   simp only [List.length_cons,ctEs,ctE];omega
theorem ctSs_len:∀ l:List St,l.length≤ctSs l
 | []=>Nat.le_refl _
 | x :: r => by
   have:=ctSs_len r
   obtain ⟨k,n,o,e,b,l,ps⟩:=x
   simp only [List.length_cons,ctSs,ctS];omega
theorem ctEs_mem:∀ {l:List Ex} {x:Ex},x∈l→ctE x≤ctEs l
 | y :: r, x, h => by
   rcases List.mem_cons.1 h with rfl | h
   · simp only [ctEs];omega
   · have:=ctEs_mem h;simp only [ctEs];omega
theorem ctSs_mem:∀ {l:List St} {x:St},x∈l→ctS x≤ctSs l
 | y :: r, x, h => by
   rcases List.mem_cons.1 h with rfl | h
   · simp only [ctSs];omega
   · have:=ctSs_mem h;simp only [ctSs];omega
def ctT (t:Th):Nat:=t.locals.length+ctSs t.body+1
theorem ctTs_len:∀ l:List Th,l.length≤ctTs l
 | []=>Nat.le_refl _
 | x::r=>by have:=ctTs_len r;simp only [List.length_cons,ctTs];omega
theorem ctTs_mem:∀ {l:List Th} {x:Th},x∈l→ctT x≤ctTs l
 | y :: r, x, h => by
   rcases List.mem_cons.1 h with rfl | h
   · simp only [ctTs,ctT];omega
   · have:=ctTs_mem h;simp only [ctTs];omega
def RR (B:Nat) (v:Value) (X:World) (b:Nat):Prop:=B≤b∧Uf X b∧v.ownBlock≠some b∧b<X.heap.size
theorem rr_below {B:Nat} {v:Value} {X Y:World} (h:Below X.heap.size X Y) {b:Nat} (hb:RR B v X b):RR B v Y b:=⟨hb.1,uf_below hb.2.1 h hb.2.2.2,hb.2.2.1,Nat.lt_of_lt_of_le hb.2.2.2 h.size⟩
theorem rr_grown {B:Nat} {v u:Value} {X Y:World} {g:Nat} (h:X.grownBy Y v.ownBlock) (hu:u.ownBlock=some g) (hl:v.ownBlock=some g∨g=X.heap.size) {b:Nat} (hb:RR B v X b):RR B u Y b:=by
 refine ⟨hb.1,fun o=>?_,?_,Nat.lt_of_lt_of_le hb.2.2.2 h.size⟩
 · rw [World.frozen?_of_block (w:=X) (a:=⟨b,o,none⟩) (h.block b hb.2.2.2 (fun e=>hb.2.2.1 e.symm))];exact hb.2.1 o
 · rw [hu]
   intro e
   have e:g=b:=Option.some.inj e
   subst e
   rcases hl with hl | hl
   · exact hb.2.2.1 hl
   · have:=hb.2.2.2;omega
end Go.Proofs.YtimccjlhhjjcpaaGreatDoor

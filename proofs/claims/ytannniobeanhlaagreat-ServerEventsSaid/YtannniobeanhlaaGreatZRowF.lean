import Derived.Test.YtannniobeanhlaaGreatLift
import Derived.Deep.Fields
set_option linter.unusedSimpArgs false
set_option linter.unusedVariables false
set_option maxRecDepth 100000
set_option maxHeartbeats 9000000
namespace Go.Proofs.YtannniobeanhlaaGreat
open Go.ChangeShapes Go.WideShapes Go.ChangeAt Go.RowKit
section
open Go.Deep
structure RdF (w:World) (A:Option Addr) (n c m:Nat) (V:Nat→Nat→Value):Prop where
 cap:n≤c
 max:c≤maxLen
 at_:0<n→∃ b off,A=some ⟨b,off,none⟩∧b<w.heap.size∧∀ i j,i<n→j<m→w.cell? ⟨b,off+i*m+j,none⟩=some (V i j)
section
variable {H:Type} {enc:TypeId × Value→H} {P:Program}
theorem zbm {W:World} {base:Nat} {t:TypeId} {v:Value} (ht:P.underlying t=some (.int .i64)) (h:∃ N y,DataW.trod enc P W base (fun _=>true) true N t [v]=some y) :
  ∃ a:Int,v=.int .i64 a∧(-9223372036854775808≤a∧a≤9223372036854775807):=by
 obtain ⟨N,y,h⟩:=h
 obtain ⟨a,h1,_,h3⟩:=DataW.trod_int ht h
 simp only [List.cons.injEq,and_true] at h1
 exact ⟨a,h1,bounds_i64 h3⟩
end
end
section
open Go.Deep
section
variable {H:Type} {enc:TypeId × Value→H} {P:Program}
theorem zl7 {W:World} {base:Nat} {t e:TypeId} {k:IntKind} {v:Value} (ht:P.underlying t=some (.slice e)) (he:P.underlying e=some (.int k)) (hc:P.cellsOf e=1)
  (h:∃ N y,DataW.trod enc P W base (fun _=>true) true N t [v]=some y):∃ A n c zs,v=.slice A n c∧RdI W k A n c zs:=by
 obtain ⟨N,y,hf⟩:=h
 rcases open_ints ht he hc hf with ⟨hcs,_⟩ | ⟨a,len',cap',zs,hcs,_,hl,hm,hz,_,hcell,hwz⟩
 ·simp only [List.cons.injEq,and_true] at hcs
  subst hcs
  exact ⟨none,0,0,[],rfl,rfl,Nat.le_refl _,Nat.zero_le _,fun h=>absurd h (by omega),fun z hz=>by simp at hz⟩
 ·simp only [List.cons.injEq,and_true] at hcs
  subst hcs
  simp only [if_true] at hz
  refine ⟨_,_,_,zs.take len',rfl,by rw [List.length_take];omega,hl,hm,fun hn=>?_,fun z hz=>hwz z (List.mem_of_mem_take hz)⟩
  obtain ⟨b,off,s⟩:=a
  have h0:=hcell 0 (by omega)
  have hs:=zba h0
  have hlt:=zaL h0
  rw [block_add] at hlt
  have:s=none:=by
   unfold Addr.add at hs
   simpa using hs
  subst this
  refine ⟨b,off,rfl,hlt,fun i hi=>?_⟩
  have:=hcell i (by omega)
  rw [add_plain] at this
  rw [this]
  simp [List.getD,List.getElem?_take,hi]
end
end
end Go.Proofs.YtannniobeanhlaaGreat

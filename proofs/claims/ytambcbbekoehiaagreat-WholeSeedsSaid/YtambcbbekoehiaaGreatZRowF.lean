import Derived.Test.YtambcbbekoehiaaGreatLift
import Derived.Deep.Fields
set_option linter.unusedSimpArgs false
set_option linter.unusedVariables false
set_option maxRecDepth 100000
set_option maxHeartbeats 9000000
namespace Go.Proofs.YtambcbbekoehiaaGreat
open Go.ChangeShapes Go.WideShapes Go.ChangeAt Go.RowKit
section
open Go.Deep
section
variable {H:Type} {enc:TypeId × Value→H} {P:Program}
end
end
section
open Go.Deep
section
variable {H:Type} {enc:TypeId × Value→H} {P:Program}
theorem row_rdI {W:World} {base:Nat} {t e:TypeId} {k:IntKind} {v:Value} (ht:P.underlying t=some (.slice e)) (he:P.underlying e=some (.int k)) (hc:P.cellsOf e=1)
  (h:∃ N y,DataW.trod enc P W base (fun _=>true) true N t [v]=some y):∃ A n c zs,v=.slice A n c∧RdI W k A n c zs:=by
 obtain ⟨N,y,hf⟩:=h
 rcases open_ints ht he hc hf with ⟨hcs,_⟩ | ⟨a,len',cap',zs,hcs,_,hl,hm,hz,_,hcell,hwz⟩
 ·simp only [List.cons.injEq,and_true] at hcs
  subst hcs
  exact ⟨none,0,0,[],rfl,rfl,Nat.le_refl _,Nat.zero_le _,fun h=>absurd h (by omega),fun z hz=>by simp at hz⟩
 ·simp only [List.cons.injEq,and_true] at hcs
  subst hcs
  simp only [if_true] at hz
  refine ⟨_,_,_,zs.take len',rfl,by rw [List.length_take];omega,hl,hm,fun hn=>?_,fun z hz=>hwz z (List.mem_of_mem_take hz)⟩
  obtain ⟨b,off,s⟩:=a
  have h0:=hcell 0 (by omega)
  have hs:=zb1 h0
  have hlt:=zaR h0
  rw [block_add] at hlt
  have:s=none:=by
   unfold Addr.add at hs
   simpa using hs
  subst this
  refine ⟨b,off,rfl,hlt,fun i hi=>?_⟩
  have:=hcell i (by omega)
  rw [add_plain] at this
  rw [this]
  simp [List.getD,List.getElem?_take,hi]
end
end
end Go.Proofs.YtambcbbekoehiaaGreat

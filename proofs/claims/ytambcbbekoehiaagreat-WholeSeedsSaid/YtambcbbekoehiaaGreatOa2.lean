import Derived.Test.YtambcbbekoehiaaGreatZLiftS
set_option linter.unusedSimpArgs false
set_option linter.unusedVariables false
set_option maxRecDepth 100000
set_option maxHeartbeats 9000000
namespace Go.Proofs.YtambcbbekoehiaaGreat
open Go.ChangeShapes Go.WideShapes Go.ChangeAt Go.RowKit
section
open Go.Deep Go.Joins
section
variable {H:Type} {enc:TypeId × Value→H} {P:Program} {w:World} {base:Nat} {sp:Nat→Bool} {held:Bool}
theorem open_a2s {r:Reach} {b0:Nat} {t e:TypeId} {v:Value} {d:DataW H} {p:List MemPlace} (ht:P.underlying t=some (.array 2 e)) (hce:P.cellsOf e=1) (hC:P.cellsOf t=2)
  (hv:Value.okWide P w r b0 t v) (h:DataW.Trod enc P w base sp held t v d p) :
  ∃ (x y:Value),v=.agg #[x,y]∧(∃ f q,DataW.trod enc P w base sp held f e [x]=some q)∧(∃ f q,DataW.trod enc P w base sp held f e [y]=some q):=by
 simp only [Value.okWide,ht] at hv
 obtain ⟨cs,rfl,hsz,_⟩:=hv
 obtain ⟨c0,c1,rfl⟩:=array2 (hsz.trans hC)
 obtain ⟨fuel,hf⟩:=h
 obtain ⟨xs,m,_,_,hl,hlen,hi⟩:=DataW.trod_array ht hf
 match xs,hlen with
 | [y0,y1],_ =>
  have h0:=hi 0 (by omega)
  have h1:=hi 1 (by omega)
  simp [Value.cells,hce] at h0 h1
  exact ⟨c0,c1,rfl,⟨_,_,h0⟩,⟨_,_,h1⟩⟩
end
end
end Go.Proofs.YtambcbbekoehiaaGreat

import Derived.Test.YtannniobeanhlaaGreatByt
import Derived.Lib.AppendStr
set_option linter.unusedSimpArgs false
set_option linter.unusedVariables false
set_option maxRecDepth 100000
set_option maxHeartbeats 9000000
namespace Go.Proofs.YtannniobeanhlaaGreat
open Go.RowKit
section
open Go
def numsC (s:ByteArray):List Int:=s.data.toList.map fun c=>(c.toNat:Int)
theorem zaC (s:ByteArray):(numsC s).length=s.size:=by unfold numsC;rw [List.length_map];rfl
theorem zgm (s:ByteArray):∀ z ∈ numsC s,0≤z∧z≤255:=by
 intro z hz
 obtain ⟨c,_,rfl⟩:=List.mem_map.1 hz
 have:=c.toNat_lt
 omega
theorem zdY (s:ByteArray):Go.Lib.strCells s=(numsC s).map (Value.int .u8):=by unfold Go.Lib.strCells numsC;rw [List.map_map];rfl
theorem zkd (s:ByteArray):numsC s=[] ↔ s.size=0:=by rw [← zaC];exact List.length_eq_zero_iff.symm
theorem size0 {s:ByteArray} (h:s.size=0):s=⟨#[]⟩:=by
 obtain ⟨⟨l⟩⟩:=s
 have:l=[]:=List.length_eq_zero_iff.1 h
 rw [this]
end
end Go.Proofs.YtannniobeanhlaaGreat

import Derived.Maps.RangeWalk
import Derived.Test.YtambcbbekoehiaaGreatZObj
set_option linter.unusedSimpArgs false
set_option linter.unusedVariables false
set_option maxRecDepth 100000
set_option maxHeartbeats 9000000
namespace Go.Proofs.YtambcbbekoehiaaGreat.Mp
open Go Go.RowKit Go.Maps
def el (v:Value):Option (DataW Value × List MemPlace):=some (.held v,[])
abbrev kl (s:ByteArray):Lit:=.string s.data.toList
section
variable {P:Program} {k:TypeId}
section
variable {w:World} {b c:Nat} {M:ByteArray→Option Value} {t e:TypeId}
end
/-! #### going over a map -/
section
variable {w:World} {ops:Array Oper} {rest:List Oper} {o:Oper} {a:Act} {Q:Exit→Act→World→Prop} {b r c n:Nat} {M:ByteArray→Option Value} {left:ByteArray→Bool} {t e:TypeId}
end
end
end Go.Proofs.YtambcbbekoehiaaGreat.Mp

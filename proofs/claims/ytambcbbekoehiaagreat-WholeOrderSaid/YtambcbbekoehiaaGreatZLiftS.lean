import Derived.Lib.SmallJoins
import Derived.Test.YtambcbbekoehiaaGreatZRowF
import Derived.Test.YtambcbbekoehiaaGreatZObj
set_option linter.unusedSimpArgs false
set_option linter.unusedVariables false
set_option maxRecDepth 100000
set_option maxHeartbeats 9000000
namespace Go.Proofs.YtambcbbekoehiaaGreat
open Go.ChangeShapes Go.WideShapes Go.ChangeAt Go.RowKit
section
open Go.Deep Go.Joins
section
variable {H:Type} {enc:TypeId × Value→H} {P:Program} {w:World} {base:Nat} {sp:Nat→Bool} {held:Bool}
end
end
section
open Go.Deep Go.Joins
section
variable {H:Type} {enc:TypeId × Value→H} {P:Program}
theorem zgF {W:World} {base:Nat} {t:TypeId} {v:Value} (ht:P.underlying t=some .bool) (h:∃ N y,DataW.trod enc P W base (fun _=>true) true N t [v]=some y):∃ b:Bool,v=.bool b:=by
 obtain ⟨N,y,h⟩:=h
 obtain ⟨s,h1,_⟩:=DataW.trod_bool ht h
 simp only [List.cons.injEq,and_true] at h1
 exact ⟨s,h1⟩
/-! #### a whole number and a string -/
/-! #### a string and a whole number -/
/-! #### a whole number,a string and a whole number;two whole numbers and a string -/
/-! #### strings -/
/-! #### arrays of three,and two of them -/
end
end
section
open Go.Deep Go.Joins
section
variable {H:Type} {enc:TypeId × Value→H} {P:Program} {w:World} {base:Nat} {sp:Nat→Bool} {held:Bool}
end
end
section
open Go.Deep Go.Joins
section
variable {H:Type} {enc:TypeId × Value→H} {P:Program} {w:World} {base:Nat} {sp:Nat→Bool} {held:Bool}
def i64In (x:Int):Prop := -9223372036854775808≤x∧x≤9223372036854775807
def RuleOK (L W B Sl Ce Ro Wi Tr:Int):Prop:=i64In L∧i64In W∧i64In B∧i64In Sl∧i64In Ce∧i64In Ro∧i64In Wi∧i64In Tr
end
end
section
open Go.Deep Go.Joins
section
variable {H:Type} {enc:TypeId × Value→H} {P:Program} {W:World} {base:Nat}
end
end
end Go.Proofs.YtambcbbekoehiaaGreat

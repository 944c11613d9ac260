/-
  No cell of these rows narrows 'for every input' (looked for: loops, veiled, ifaces, maps, wideKeys, modest, calm, conditions, laid).
  DERIVED. THE GIVEN ROWS OF THIS SEAT. 4 by the template 'for every input the law returns true; each argument reads behind the call as it read before'; 0 by the template 'total and deterministic' (their statements: YtambcbbekoehiabGreatTotals.lean).
  GIVEN WITH THE SEED: the statements are not yours to turn. If you find one false, say at which input.
  Laid BY PROGRAM, IN A SANDBOX (cutbox-rows.mjs): the forced cells as the released guide's own fill.sh prints them over the translation 16a2a032e7e78452… (all of the seat's roots in one cut). By AI agents, Wed Nov 11 2026. No macro, syntax, notation, axiom, sorry.
-/
import Derived.Test.YtambcbbekoehiabGreatChecked
import GoSem.Claim
import GoSem.ClaimJoined
import GoSem.ClaimMapViews
import Derived.JoinedTies
import Derived.KernelRfl
namespace Go.Proofs.YtambcbbekoehiabGreat
/- THE CELL 'sum', in the pinned program and in every row, IS THE sha256 OF THE DUMP (.gsa) THAT YtambcbbekoehiabGreatProg.lean LOADS. Nothing in Lean hashes anything: it is a label: what it is worth is what the hold of that sum in a sandbox is worth. -/
noncomputable def Tryz.pinned : Pinned := { name := "ytambcbbekoehiabgreat", sum := "16a2a032e7e78452a43974d9b2f91695045767bbf8755ff8b69b8aa11bee70e0", checked := Tryz.checked }
namespace Rows
def none {H : Type} : Left H := { results := [], args := [] }

/-- 'weighbridgetop.WholeRules': WHATEVER THE INPUT: true; the input reads as it did. -/
def wholeRulesSpec : ChangeSpec := { name := "wholeRules", fn := fun _ => fun
  | [d1, d2, d3] => { results := [.lit (.bool true)], args := [d1, d2, d3] }
  | _ => none }
def wholeRulesRow : OpenClaim := { program := "ytambcbbekoehiabgreat", sum := "16a2a032e7e78452a43974d9b2f91695045767bbf8755ff8b69b8aa11bee70e0", func := "weighbridge/weighbridgetop.WholeRules", spec := "wholeRules", unfollowed := true, recurses := true, apart := false }
def WholeRulesSaid : Prop := wholeRulesRow.holds Tryz.pinned (OpenSpec.ofChange wholeRulesSpec)

/-- ITS FALSE NEIGHBOUR: 'it returns false'. Refute it at one input. -/
def wholeRulesWrong : ChangeSpec := { name := "wholeRules", fn := fun _ => fun
  | [d1, d2, d3] => { results := [.lit (.bool false)], args := [d1, d2, d3] }
  | _ => none }
def WholeRulesWrongFalsely : Prop := wholeRulesRow.holds Tryz.pinned (OpenSpec.ofChange wholeRulesWrong)

/-- 'weighbridgetop.WholeBytes': WHATEVER THE INPUT: true; the input reads as it did. -/
def wholeBytesSpec : ChangeSpec := { name := "wholeBytes", fn := fun _ => fun
  | [d1, d2, d3] => { results := [.lit (.bool true)], args := [d1, d2, d3] }
  | _ => none }
def wholeBytesRow : OpenClaim := { program := "ytambcbbekoehiabgreat", sum := "16a2a032e7e78452a43974d9b2f91695045767bbf8755ff8b69b8aa11bee70e0", func := "weighbridge/weighbridgetop.WholeBytes", spec := "wholeBytes", unfollowed := true, recurses := true, apart := false }
def WholeBytesSaid : Prop := wholeBytesRow.holds Tryz.pinned (OpenSpec.ofChange wholeBytesSpec)

/-- ITS FALSE NEIGHBOUR: 'it returns false'. Refute it at one input. -/
def wholeBytesWrong : ChangeSpec := { name := "wholeBytes", fn := fun _ => fun
  | [d1, d2, d3] => { results := [.lit (.bool false)], args := [d1, d2, d3] }
  | _ => none }
def WholeBytesWrongFalsely : Prop := wholeBytesRow.holds Tryz.pinned (OpenSpec.ofChange wholeBytesWrong)

/-- 'weighbridgetop.WholeDrains': WHATEVER THE INPUT: true; the input reads as it did. -/
def wholeDrainsSpec : ChangeSpec := { name := "wholeDrains", fn := fun _ => fun
  | [d1, d2, d3] => { results := [.lit (.bool true)], args := [d1, d2, d3] }
  | _ => none }
def wholeDrainsRow : OpenClaim := { program := "ytambcbbekoehiabgreat", sum := "16a2a032e7e78452a43974d9b2f91695045767bbf8755ff8b69b8aa11bee70e0", func := "weighbridge/weighbridgetop.WholeDrains", spec := "wholeDrains", unfollowed := true, recurses := true, apart := false }
def WholeDrainsSaid : Prop := wholeDrainsRow.holds Tryz.pinned (OpenSpec.ofChange wholeDrainsSpec)

/-- ITS FALSE NEIGHBOUR: 'it returns false'. Refute it at one input. -/
def wholeDrainsWrong : ChangeSpec := { name := "wholeDrains", fn := fun _ => fun
  | [d1, d2, d3] => { results := [.lit (.bool false)], args := [d1, d2, d3] }
  | _ => none }
def WholeDrainsWrongFalsely : Prop := wholeDrainsRow.holds Tryz.pinned (OpenSpec.ofChange wholeDrainsWrong)

/-- 'weighbridgetop.WholeNever': WHATEVER THE INPUT: true; the input reads as it did. -/
def wholeNeverSpec : ChangeSpec := { name := "wholeNever", fn := fun _ => fun
  | [d1, d2, d3] => { results := [.lit (.bool true)], args := [d1, d2, d3] }
  | _ => none }
def wholeNeverRow : OpenClaim := { program := "ytambcbbekoehiabgreat", sum := "16a2a032e7e78452a43974d9b2f91695045767bbf8755ff8b69b8aa11bee70e0", func := "weighbridge/weighbridgetop.WholeNever", spec := "wholeNever", unfollowed := true, recurses := true, apart := false }
def WholeNeverSaid : Prop := wholeNeverRow.holds Tryz.pinned (OpenSpec.ofChange wholeNeverSpec)

/-- ITS FALSE NEIGHBOUR: 'it returns false'. Refute it at one input. -/
def wholeNeverWrong : ChangeSpec := { name := "wholeNever", fn := fun _ => fun
  | [d1, d2, d3] => { results := [.lit (.bool false)], args := [d1, d2, d3] }
  | _ => none }
def WholeNeverWrongFalsely : Prop := wholeNeverRow.holds Tryz.pinned (OpenSpec.ofChange wholeNeverWrong)

/- THE SECOND FORM. 'bulk': how many values and letters a reading holds, each counted each time it is reached (what is shared counts as often as it is met; a slice's spare places count too). A statement '..UptoSaid' is the law's where the arguments, and the package variables that the reading takes, are together of bulk at most 1048576: NARROWER than '..Said'. Prove '..Said' where nothing that the law and all that it calls make is longer than what came in: it says more and counts as full. Else prove '..UptoSaid'. A law counts once. -/
mutual
def uptoBulk {H : Type} : DataW H → Nat
  | .lit (.string bytes) => bytes.length + 1
  | .lit _ => 1
  | .nil => 1
  | .ptr d => uptoBulk d + 1
  | .slice elems spare => uptoBulkAll elems + uptoBulkAll spare + 1
  | .agg parts => uptoBulkAll parts + 1
  | .iface _ d => uptoBulk d + 1
  | .map entries => uptoBulkEntries entries + 1
  | .held _ => 1
def uptoBulkAll {H : Type} : List (DataW H) → Nat
  | [] => 0
  | d :: r => uptoBulk d + uptoBulkAll r
def uptoBulkEntries {H : Type} : List (Lit × DataW H) → Nat
  | [] => 0
  | x :: r => uptoBulkEntry x + uptoBulkEntries r
def uptoBulkEntry {H : Type} : Lit × DataW H → Nat
  | (.string bytes, d) => bytes.length + uptoBulk d + 1
  | (_, d) => uptoBulk d + 1
 end
def uptoSmall : (H : Type) → List (DataW H) → Bool := fun _ ds => decide (uptoBulkAll ds ≤ 1048576)
def OpenSpec.upto (s : _root_.Go.ChangeSpec) : _root_.Go.OpenSpec := { _root_.Go.OpenSpec.ofChange s with cond := some uptoSmall }

/-- 'weighbridgetop.WholeRules', WHERE WHAT IT READS IS OF BULK AT MOST 1048576: true; the input reads as it did. -/
def wholeRulesUptoRow : OpenClaim := { program := "ytambcbbekoehiabgreat", sum := "16a2a032e7e78452a43974d9b2f91695045767bbf8755ff8b69b8aa11bee70e0", func := "weighbridge/weighbridgetop.WholeRules", spec := "wholeRules", unfollowed := true, recurses := true, apart := false, narrowed := true }
def WholeRulesUptoSaid : Prop := wholeRulesUptoRow.holds Tryz.pinned (OpenSpec.upto wholeRulesSpec)

/-- 'weighbridgetop.WholeBytes', WHERE WHAT IT READS IS OF BULK AT MOST 1048576: true; the input reads as it did. -/
def wholeBytesUptoRow : OpenClaim := { program := "ytambcbbekoehiabgreat", sum := "16a2a032e7e78452a43974d9b2f91695045767bbf8755ff8b69b8aa11bee70e0", func := "weighbridge/weighbridgetop.WholeBytes", spec := "wholeBytes", unfollowed := true, recurses := true, apart := false, narrowed := true }
def WholeBytesUptoSaid : Prop := wholeBytesUptoRow.holds Tryz.pinned (OpenSpec.upto wholeBytesSpec)

/-- 'weighbridgetop.WholeDrains', WHERE WHAT IT READS IS OF BULK AT MOST 1048576: true; the input reads as it did. -/
def wholeDrainsUptoRow : OpenClaim := { program := "ytambcbbekoehiabgreat", sum := "16a2a032e7e78452a43974d9b2f91695045767bbf8755ff8b69b8aa11bee70e0", func := "weighbridge/weighbridgetop.WholeDrains", spec := "wholeDrains", unfollowed := true, recurses := true, apart := false, narrowed := true }
def WholeDrainsUptoSaid : Prop := wholeDrainsUptoRow.holds Tryz.pinned (OpenSpec.upto wholeDrainsSpec)

/-- 'weighbridgetop.WholeNever', WHERE WHAT IT READS IS OF BULK AT MOST 1048576: true; the input reads as it did. -/
def wholeNeverUptoRow : OpenClaim := { program := "ytambcbbekoehiabgreat", sum := "16a2a032e7e78452a43974d9b2f91695045767bbf8755ff8b69b8aa11bee70e0", func := "weighbridge/weighbridgetop.WholeNever", spec := "wholeNever", unfollowed := true, recurses := true, apart := false, narrowed := true }
def WholeNeverUptoSaid : Prop := wholeNeverUptoRow.holds Tryz.pinned (OpenSpec.upto wholeNeverSpec)

end Rows
end Go.Proofs.YtambcbbekoehiabGreat

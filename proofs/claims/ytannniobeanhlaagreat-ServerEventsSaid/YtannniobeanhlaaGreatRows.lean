/-
  No cell of these rows narrows 'for every input' (looked for: loops, veiled, ifaces, maps, wideKeys, modest, calm, conditions, laid).
  DERIVED. THE GIVEN ROWS OF THIS SEAT. 9 by the template 'for every input the law returns true; each argument reads behind the call as it read before'; 0 by the template 'total and deterministic' (their statements: YtannniobeanhlaaGreatTotals.lean).
  GIVEN WITH THE SEED: the statements are not yours to turn. If you find one false, say at which input.
  Laid BY PROGRAM, IN A SANDBOX (cutbox-rows.mjs): the forced cells as the released guide's own fill.sh prints them over the translation c469f0ed6fc072e2… (all of the seat's roots in one cut). By AI agents, Wed Nov 11 2026. No macro, syntax, notation, axiom, sorry.
-/
import Derived.Test.YtannniobeanhlaaGreatChecked
import GoSem.Claim
import GoSem.ClaimJoined
import GoSem.ClaimMapViews
import Derived.JoinedTies
import Derived.KernelRfl
namespace Go.Proofs.YtannniobeanhlaaGreat
/- THE CELL 'sum', in the pinned program and in every row, IS THE sha256 OF THE DUMP (.gsa) THAT YtannniobeanhlaaGreatProg.lean LOADS. Nothing in Lean hashes anything: it is a label: what it is worth is what the hold of that sum in a sandbox is worth. -/
noncomputable def Tryz.pinned : Pinned := { name := "ytannniobeanhlaagreat", sum := "c469f0ed6fc072e2132488cb81829fc758c941e821d6426bccf5f4f217045f7a", checked := Tryz.checked }
namespace Rows
def none {H : Type} : Left H := { results := [], args := [] }

/-- 'weighbridgelaw18.ServerRuns': WHATEVER THE INPUT: true; the input reads as it did. -/
def serverRunsSpec : ChangeSpec := { name := "serverRuns", fn := fun _ => fun
  | [d1, d2, d3] => { results := [.lit (.bool true)], args := [d1, d2, d3] }
  | _ => none }
def serverRunsRow : OpenClaim := { program := "ytannniobeanhlaagreat", sum := "c469f0ed6fc072e2132488cb81829fc758c941e821d6426bccf5f4f217045f7a", func := "weighbridge/weighbridgelaw18.ServerRuns", spec := "serverRuns", unfollowed := true, recurses := true, plainKeys := false, apart := false }
def ServerRunsSaid : Prop := serverRunsRow.holds Tryz.pinned (OpenSpec.ofChange serverRunsSpec)

/-- ITS FALSE NEIGHBOUR: 'it returns false'. Refute it at one input. -/
def serverRunsWrong : ChangeSpec := { name := "serverRuns", fn := fun _ => fun
  | [d1, d2, d3] => { results := [.lit (.bool false)], args := [d1, d2, d3] }
  | _ => none }
def ServerRunsWrongFalsely : Prop := serverRunsRow.holds Tryz.pinned (OpenSpec.ofChange serverRunsWrong)

/-- 'weighbridgelaw18.ServerErrors': WHATEVER THE INPUT: true; the input reads as it did. -/
def serverErrorsSpec : ChangeSpec := { name := "serverErrors", fn := fun _ => fun
  | [d1, d2, d3] => { results := [.lit (.bool true)], args := [d1, d2, d3] }
  | _ => none }
def serverErrorsRow : OpenClaim := { program := "ytannniobeanhlaagreat", sum := "c469f0ed6fc072e2132488cb81829fc758c941e821d6426bccf5f4f217045f7a", func := "weighbridge/weighbridgelaw18.ServerErrors", spec := "serverErrors", unfollowed := true, recurses := true, plainKeys := false, apart := false }
def ServerErrorsSaid : Prop := serverErrorsRow.holds Tryz.pinned (OpenSpec.ofChange serverErrorsSpec)

/-- ITS FALSE NEIGHBOUR: 'it returns false'. Refute it at one input. -/
def serverErrorsWrong : ChangeSpec := { name := "serverErrors", fn := fun _ => fun
  | [d1, d2, d3] => { results := [.lit (.bool false)], args := [d1, d2, d3] }
  | _ => none }
def ServerErrorsWrongFalsely : Prop := serverErrorsRow.holds Tryz.pinned (OpenSpec.ofChange serverErrorsWrong)

/-- 'weighbridgelaw18.ServerCuts': WHATEVER THE INPUT: true; the input reads as it did. -/
def serverCutsSpec : ChangeSpec := { name := "serverCuts", fn := fun _ => fun
  | [d1, d2, d3] => { results := [.lit (.bool true)], args := [d1, d2, d3] }
  | _ => none }
def serverCutsRow : OpenClaim := { program := "ytannniobeanhlaagreat", sum := "c469f0ed6fc072e2132488cb81829fc758c941e821d6426bccf5f4f217045f7a", func := "weighbridge/weighbridgelaw18.ServerCuts", spec := "serverCuts", unfollowed := true, recurses := true, plainKeys := false, apart := false }
def ServerCutsSaid : Prop := serverCutsRow.holds Tryz.pinned (OpenSpec.ofChange serverCutsSpec)

/-- ITS FALSE NEIGHBOUR: 'it returns false'. Refute it at one input. -/
def serverCutsWrong : ChangeSpec := { name := "serverCuts", fn := fun _ => fun
  | [d1, d2, d3] => { results := [.lit (.bool false)], args := [d1, d2, d3] }
  | _ => none }
def ServerCutsWrongFalsely : Prop := serverCutsRow.holds Tryz.pinned (OpenSpec.ofChange serverCutsWrong)

/-- 'weighbridgelaw18.ServerStats': WHATEVER THE INPUT: true; the input reads as it did. -/
def serverStatsSpec : ChangeSpec := { name := "serverStats", fn := fun _ => fun
  | [d1, d2] => { results := [.lit (.bool true)], args := [d1, d2] }
  | _ => none }
def serverStatsRow : OpenClaim := { program := "ytannniobeanhlaagreat", sum := "c469f0ed6fc072e2132488cb81829fc758c941e821d6426bccf5f4f217045f7a", func := "weighbridge/weighbridgelaw18.ServerStats", spec := "serverStats", unfollowed := true, recurses := true, plainKeys := false, apart := false }
def ServerStatsSaid : Prop := serverStatsRow.holds Tryz.pinned (OpenSpec.ofChange serverStatsSpec)

/-- ITS FALSE NEIGHBOUR: 'it returns false'. Refute it at one input. -/
def serverStatsWrong : ChangeSpec := { name := "serverStats", fn := fun _ => fun
  | [d1, d2] => { results := [.lit (.bool false)], args := [d1, d2] }
  | _ => none }
def ServerStatsWrongFalsely : Prop := serverStatsRow.holds Tryz.pinned (OpenSpec.ofChange serverStatsWrong)

/-- 'weighbridgelaw18.ServerTime': WHATEVER THE INPUT: true; the input reads as it did. -/
def serverTimeSpec : ChangeSpec := { name := "serverTime", fn := fun _ => fun
  | [d1, d2] => { results := [.lit (.bool true)], args := [d1, d2] }
  | _ => none }
def serverTimeRow : OpenClaim := { program := "ytannniobeanhlaagreat", sum := "c469f0ed6fc072e2132488cb81829fc758c941e821d6426bccf5f4f217045f7a", func := "weighbridge/weighbridgelaw18.ServerTime", spec := "serverTime", unfollowed := true, recurses := true, plainKeys := false, apart := false }
def ServerTimeSaid : Prop := serverTimeRow.holds Tryz.pinned (OpenSpec.ofChange serverTimeSpec)

/-- ITS FALSE NEIGHBOUR: 'it returns false'. Refute it at one input. -/
def serverTimeWrong : ChangeSpec := { name := "serverTime", fn := fun _ => fun
  | [d1, d2] => { results := [.lit (.bool false)], args := [d1, d2] }
  | _ => none }
def ServerTimeWrongFalsely : Prop := serverTimeRow.holds Tryz.pinned (OpenSpec.ofChange serverTimeWrong)

/-- 'weighbridgelaw18.ServerAnew': WHATEVER THE INPUT: true; the input reads as it did. -/
def serverAnewSpec : ChangeSpec := { name := "serverAnew", fn := fun _ => fun
  | [d1, d2, d3] => { results := [.lit (.bool true)], args := [d1, d2, d3] }
  | _ => none }
def serverAnewRow : OpenClaim := { program := "ytannniobeanhlaagreat", sum := "c469f0ed6fc072e2132488cb81829fc758c941e821d6426bccf5f4f217045f7a", func := "weighbridge/weighbridgelaw18.ServerAnew", spec := "serverAnew", unfollowed := true, recurses := true, plainKeys := false, apart := false }
def ServerAnewSaid : Prop := serverAnewRow.holds Tryz.pinned (OpenSpec.ofChange serverAnewSpec)

/-- ITS FALSE NEIGHBOUR: 'it returns false'. Refute it at one input. -/
def serverAnewWrong : ChangeSpec := { name := "serverAnew", fn := fun _ => fun
  | [d1, d2, d3] => { results := [.lit (.bool false)], args := [d1, d2, d3] }
  | _ => none }
def ServerAnewWrongFalsely : Prop := serverAnewRow.holds Tryz.pinned (OpenSpec.ofChange serverAnewWrong)

/-- 'weighbridgelaw18.ServerEvents': WHATEVER THE INPUT: true; the input reads as it did. -/
def serverEventsSpec : ChangeSpec := { name := "serverEvents", fn := fun _ => fun
  | [d1, d2] => { results := [.lit (.bool true)], args := [d1, d2] }
  | _ => none }
def serverEventsRow : OpenClaim := { program := "ytannniobeanhlaagreat", sum := "c469f0ed6fc072e2132488cb81829fc758c941e821d6426bccf5f4f217045f7a", func := "weighbridge/weighbridgelaw18.ServerEvents", spec := "serverEvents", unfollowed := true, recurses := true, named := ["math/bits.divideError", "math/bits.overflowError"], plainKeys := false, apart := false }
def ServerEventsSaid : Prop := serverEventsRow.holds Tryz.pinned (OpenSpec.ofChange serverEventsSpec)

/-- ITS FALSE NEIGHBOUR: 'it returns false'. Refute it at one input. -/
def serverEventsWrong : ChangeSpec := { name := "serverEvents", fn := fun _ => fun
  | [d1, d2] => { results := [.lit (.bool false)], args := [d1, d2] }
  | _ => none }
def ServerEventsWrongFalsely : Prop := serverEventsRow.holds Tryz.pinned (OpenSpec.ofChange serverEventsWrong)

/-- 'weighbridgelaw18.ServerOpens': WHATEVER THE INPUT: true; the input reads as it did. -/
def serverOpensSpec : ChangeSpec := { name := "serverOpens", fn := fun _ => fun
  | [d] => { results := [.lit (.bool true)], args := [d] }
  | _ => none }
def serverOpensRow : OpenClaim := { program := "ytannniobeanhlaagreat", sum := "c469f0ed6fc072e2132488cb81829fc758c941e821d6426bccf5f4f217045f7a", func := "weighbridge/weighbridgelaw18.ServerOpens", spec := "serverOpens", unfollowed := true, recurses := true, plainKeys := false, apart := false }
def ServerOpensSaid : Prop := serverOpensRow.holds Tryz.pinned (OpenSpec.ofChange serverOpensSpec)

/-- ITS FALSE NEIGHBOUR: 'it returns false'. Refute it at one input. -/
def serverOpensWrong : ChangeSpec := { name := "serverOpens", fn := fun _ => fun
  | [d] => { results := [.lit (.bool false)], args := [d] }
  | _ => none }
def ServerOpensWrongFalsely : Prop := serverOpensRow.holds Tryz.pinned (OpenSpec.ofChange serverOpensWrong)

/-- 'weighbridgelaw18.ServerApart': WHATEVER THE INPUT: true; the input reads as it did. -/
def serverApartSpec : ChangeSpec := { name := "serverApart", fn := fun _ => fun
  | [d1, d2, d3] => { results := [.lit (.bool true)], args := [d1, d2, d3] }
  | _ => none }
def serverApartRow : OpenClaim := { program := "ytannniobeanhlaagreat", sum := "c469f0ed6fc072e2132488cb81829fc758c941e821d6426bccf5f4f217045f7a", func := "weighbridge/weighbridgelaw18.ServerApart", spec := "serverApart", unfollowed := true, recurses := true, plainKeys := false, apart := false }
def ServerApartSaid : Prop := serverApartRow.holds Tryz.pinned (OpenSpec.ofChange serverApartSpec)

/-- ITS FALSE NEIGHBOUR: 'it returns false'. Refute it at one input. -/
def serverApartWrong : ChangeSpec := { name := "serverApart", fn := fun _ => fun
  | [d1, d2, d3] => { results := [.lit (.bool false)], args := [d1, d2, d3] }
  | _ => none }
def ServerApartWrongFalsely : Prop := serverApartRow.holds Tryz.pinned (OpenSpec.ofChange serverApartWrong)

/- THE SECOND FORM. 'bulk': how many values and letters a reading holds, each counted each time it is reached (what is shared counts as often as it is met; a slice's spare places count too). A statement '..UptoSaid' is the law's where the arguments, and the package variables that the reading takes, are together of bulk at most 1048576: NARROWER than '..Said'. Prove '..Said' where nothing that the law and all that it calls make is longer than what came in: it says more and counts as full. Else prove '..UptoSaid'. A law counts once. -/
mutual
def uptoBulk {H : Type} : DataW H → Nat
  | .lit (.string bytes) => bytes.length + 1
  | .lit _ => 1
  | .nil => 1
  | .ptr d => uptoBulk d + 1
  | .slice elems spare => uptoBulkAll elems + uptoBulkAll spare + 1
  | .agg parts => uptoBulkAll parts + 1
  | .iface _ d => uptoBulk d + 1
  | .map entries => uptoBulkEntries entries + 1
  | .held _ => 1
def uptoBulkAll {H : Type} : List (DataW H) → Nat
  | [] => 0
  | d :: r => uptoBulk d + uptoBulkAll r
def uptoBulkEntries {H : Type} : List (Lit × DataW H) → Nat
  | [] => 0
  | x :: r => uptoBulkEntry x + uptoBulkEntries r
def uptoBulkEntry {H : Type} : Lit × DataW H → Nat
  | (.string bytes, d) => bytes.length + uptoBulk d + 1
  | (_, d) => uptoBulk d + 1
 end
def uptoSmall : (H : Type) → List (DataW H) → Bool := fun _ ds => decide (uptoBulkAll ds ≤ 1048576)
def OpenSpec.upto (s : _root_.Go.ChangeSpec) : _root_.Go.OpenSpec := { _root_.Go.OpenSpec.ofChange s with cond := some uptoSmall }

/-- 'weighbridgelaw18.ServerRuns', WHERE WHAT IT READS IS OF BULK AT MOST 1048576: true; the input reads as it did. -/
def serverRunsUptoRow : OpenClaim := { program := "ytannniobeanhlaagreat", sum := "c469f0ed6fc072e2132488cb81829fc758c941e821d6426bccf5f4f217045f7a", func := "weighbridge/weighbridgelaw18.ServerRuns", spec := "serverRuns", unfollowed := true, recurses := true, plainKeys := false, apart := false, narrowed := true }
def ServerRunsUptoSaid : Prop := serverRunsUptoRow.holds Tryz.pinned (OpenSpec.upto serverRunsSpec)

/-- 'weighbridgelaw18.ServerErrors', WHERE WHAT IT READS IS OF BULK AT MOST 1048576: true; the input reads as it did. -/
def serverErrorsUptoRow : OpenClaim := { program := "ytannniobeanhlaagreat", sum := "c469f0ed6fc072e2132488cb81829fc758c941e821d6426bccf5f4f217045f7a", func := "weighbridge/weighbridgelaw18.ServerErrors", spec := "serverErrors", unfollowed := true, recurses := true, plainKeys := false, apart := false, narrowed := true }
def ServerErrorsUptoSaid : Prop := serverErrorsUptoRow.holds Tryz.pinned (OpenSpec.upto serverErrorsSpec)

/-- 'weighbridgelaw18.ServerCuts', WHERE WHAT IT READS IS OF BULK AT MOST 1048576: true; the input reads as it did. -/
def serverCutsUptoRow : OpenClaim := { program := "ytannniobeanhlaagreat", sum := "c469f0ed6fc072e2132488cb81829fc758c941e821d6426bccf5f4f217045f7a", func := "weighbridge/weighbridgelaw18.ServerCuts", spec := "serverCuts", unfollowed := true, recurses := true, plainKeys := false, apart := false, narrowed := true }
def ServerCutsUptoSaid : Prop := serverCutsUptoRow.holds Tryz.pinned (OpenSpec.upto serverCutsSpec)

/-- 'weighbridgelaw18.ServerStats', WHERE WHAT IT READS IS OF BULK AT MOST 1048576: true; the input reads as it did. -/
def serverStatsUptoRow : OpenClaim := { program := "ytannniobeanhlaagreat", sum := "c469f0ed6fc072e2132488cb81829fc758c941e821d6426bccf5f4f217045f7a", func := "weighbridge/weighbridgelaw18.ServerStats", spec := "serverStats", unfollowed := true, recurses := true, plainKeys := false, apart := false, narrowed := true }
def ServerStatsUptoSaid : Prop := serverStatsUptoRow.holds Tryz.pinned (OpenSpec.upto serverStatsSpec)

/-- 'weighbridgelaw18.ServerTime', WHERE WHAT IT READS IS OF BULK AT MOST 1048576: true; the input reads as it did. -/
def serverTimeUptoRow : OpenClaim := { program := "ytannniobeanhlaagreat", sum := "c469f0ed6fc072e2132488cb81829fc758c941e821d6426bccf5f4f217045f7a", func := "weighbridge/weighbridgelaw18.ServerTime", spec := "serverTime", unfollowed := true, recurses := true, plainKeys := false, apart := false, narrowed := true }
def ServerTimeUptoSaid : Prop := serverTimeUptoRow.holds Tryz.pinned (OpenSpec.upto serverTimeSpec)

/-- 'weighbridgelaw18.ServerAnew', WHERE WHAT IT READS IS OF BULK AT MOST 1048576: true; the input reads as it did. -/
def serverAnewUptoRow : OpenClaim := { program := "ytannniobeanhlaagreat", sum := "c469f0ed6fc072e2132488cb81829fc758c941e821d6426bccf5f4f217045f7a", func := "weighbridge/weighbridgelaw18.ServerAnew", spec := "serverAnew", unfollowed := true, recurses := true, plainKeys := false, apart := false, narrowed := true }
def ServerAnewUptoSaid : Prop := serverAnewUptoRow.holds Tryz.pinned (OpenSpec.upto serverAnewSpec)

/-- 'weighbridgelaw18.ServerEvents', WHERE WHAT IT READS IS OF BULK AT MOST 1048576: true; the input reads as it did. -/
def serverEventsUptoRow : OpenClaim := { program := "ytannniobeanhlaagreat", sum := "c469f0ed6fc072e2132488cb81829fc758c941e821d6426bccf5f4f217045f7a", func := "weighbridge/weighbridgelaw18.ServerEvents", spec := "serverEvents", unfollowed := true, recurses := true, named := ["math/bits.divideError", "math/bits.overflowError"], plainKeys := false, apart := false, narrowed := true }
def ServerEventsUptoSaid : Prop := serverEventsUptoRow.holds Tryz.pinned (OpenSpec.upto serverEventsSpec)

/-- 'weighbridgelaw18.ServerOpens', WHERE WHAT IT READS IS OF BULK AT MOST 1048576: true; the input reads as it did. -/
def serverOpensUptoRow : OpenClaim := { program := "ytannniobeanhlaagreat", sum := "c469f0ed6fc072e2132488cb81829fc758c941e821d6426bccf5f4f217045f7a", func := "weighbridge/weighbridgelaw18.ServerOpens", spec := "serverOpens", unfollowed := true, recurses := true, plainKeys := false, apart := false, narrowed := true }
def ServerOpensUptoSaid : Prop := serverOpensUptoRow.holds Tryz.pinned (OpenSpec.upto serverOpensSpec)

/-- 'weighbridgelaw18.ServerApart', WHERE WHAT IT READS IS OF BULK AT MOST 1048576: true; the input reads as it did. -/
def serverApartUptoRow : OpenClaim := { program := "ytannniobeanhlaagreat", sum := "c469f0ed6fc072e2132488cb81829fc758c941e821d6426bccf5f4f217045f7a", func := "weighbridge/weighbridgelaw18.ServerApart", spec := "serverApart", unfollowed := true, recurses := true, plainKeys := false, apart := false, narrowed := true }
def ServerApartUptoSaid : Prop := serverApartUptoRow.holds Tryz.pinned (OpenSpec.upto serverApartSpec)

end Rows
end Go.Proofs.YtannniobeanhlaaGreat

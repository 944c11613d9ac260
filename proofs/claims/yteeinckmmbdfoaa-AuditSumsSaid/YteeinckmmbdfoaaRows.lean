/-
  No cell of these rows narrows 'for every input' (looked for: loops, veiled, ifaces, maps, wideKeys, modest, calm, conditions, laid).
  DERIVED. THE GIVEN ROWS OF THIS SEAT. 4 by the template 'for every input the law returns true; each argument reads behind the call as it read before'; 0 by the template 'total and deterministic' (their statements: YteeinckmmbdfoaaTotals.lean).
  GIVEN WITH THE SEED: the statements are not yours to turn. If you find one false, say at which input.
  Laid BY PROGRAM, IN A SANDBOX (cutbox-rows.mjs): the forced cells as the released guide's own fill.sh prints them over the translation 944a91c45e828e26… (all of the seat's roots in one cut). By AI agents, Wed Nov 11 2026. No macro, syntax, notation, axiom, sorry.
-/
import Derived.Test.YteeinckmmbdfoaaChecked
import GoSem.Claim
import GoSem.ClaimJoined
import GoSem.ClaimMapViews
import Derived.JoinedTies
import Derived.KernelRfl
namespace Go.Proofs.Yteeinckmmbdfoaa
/- THE CELL 'sum', in the pinned program and in every row, IS THE sha256 OF THE DUMP (.gsa) THAT YteeinckmmbdfoaaProg.lean LOADS. Nothing in Lean hashes anything: it is a label: what it is worth is what the hold of that sum in a sandbox is worth. -/
noncomputable def Try.pinned : Pinned := { name := "yteeinckmmbdfoaa", sum := "944a91c45e828e26f7d9323bb954dd017fc53e7589e9c3ddad0c29cc30e1f826", checked := Try.checked }
namespace Rows
def none {H : Type} : Left H := { results := [], args := [] }

/-- 'weighbridgelaw20.AuditSums': WHATEVER THE INPUT: true; the input reads as it did. -/
def auditSumsSpec : ChangeSpec := { name := "auditSums", fn := fun _ => fun
  | [d1, d2, d3] => { results := [.lit (.bool true)], args := [d1, d2, d3] }
  | _ => none }
def auditSumsRow : OpenClaim := { program := "yteeinckmmbdfoaa", sum := "944a91c45e828e26f7d9323bb954dd017fc53e7589e9c3ddad0c29cc30e1f826", func := "weighbridge/weighbridgelaw20.AuditSums", spec := "auditSums", unfollowed := true, recurses := true, plainKeys := false, apart := false }
def AuditSumsSaid : Prop := auditSumsRow.holds Try.pinned (OpenSpec.ofChange auditSumsSpec)

/-- ITS FALSE NEIGHBOUR: 'it returns false'. Refute it at one input. -/
def auditSumsWrong : ChangeSpec := { name := "auditSums", fn := fun _ => fun
  | [d1, d2, d3] => { results := [.lit (.bool false)], args := [d1, d2, d3] }
  | _ => none }
def AuditSumsWrongFalsely : Prop := auditSumsRow.holds Try.pinned (OpenSpec.ofChange auditSumsWrong)

/-- 'weighbridgelaw20.AuditMost': WHATEVER THE INPUT: true; the input reads as it did. -/
def auditMostSpec : ChangeSpec := { name := "auditMost", fn := fun _ => fun
  | [d1, d2] => { results := [.lit (.bool true)], args := [d1, d2] }
  | _ => none }
def auditMostRow : OpenClaim := { program := "yteeinckmmbdfoaa", sum := "944a91c45e828e26f7d9323bb954dd017fc53e7589e9c3ddad0c29cc30e1f826", func := "weighbridge/weighbridgelaw20.AuditMost", spec := "auditMost", unfollowed := true, recurses := true, plainKeys := false, apart := false }
def AuditMostSaid : Prop := auditMostRow.holds Try.pinned (OpenSpec.ofChange auditMostSpec)

/-- ITS FALSE NEIGHBOUR: 'it returns false'. Refute it at one input. -/
def auditMostWrong : ChangeSpec := { name := "auditMost", fn := fun _ => fun
  | [d1, d2] => { results := [.lit (.bool false)], args := [d1, d2] }
  | _ => none }
def AuditMostWrongFalsely : Prop := auditMostRow.holds Try.pinned (OpenSpec.ofChange auditMostWrong)

/-- 'weighbridgelaw20.AuditApart': WHATEVER THE INPUT: true; the input reads as it did. -/
def auditApartSpec : ChangeSpec := { name := "auditApart", fn := fun _ => fun
  | [d1, d2, d3] => { results := [.lit (.bool true)], args := [d1, d2, d3] }
  | _ => none }
def auditApartRow : OpenClaim := { program := "yteeinckmmbdfoaa", sum := "944a91c45e828e26f7d9323bb954dd017fc53e7589e9c3ddad0c29cc30e1f826", func := "weighbridge/weighbridgelaw20.AuditApart", spec := "auditApart", unfollowed := true, recurses := true, plainKeys := false, apart := false }
def AuditApartSaid : Prop := auditApartRow.holds Try.pinned (OpenSpec.ofChange auditApartSpec)

/-- ITS FALSE NEIGHBOUR: 'it returns false'. Refute it at one input. -/
def auditApartWrong : ChangeSpec := { name := "auditApart", fn := fun _ => fun
  | [d1, d2, d3] => { results := [.lit (.bool false)], args := [d1, d2, d3] }
  | _ => none }
def AuditApartWrongFalsely : Prop := auditApartRow.holds Try.pinned (OpenSpec.ofChange auditApartWrong)

/-- 'weighbridgelaw20.AuditTurned': WHATEVER THE INPUT: true; the input reads as it did. -/
def auditTurnedSpec : ChangeSpec := { name := "auditTurned", fn := fun _ => fun
  | [d1, d2] => { results := [.lit (.bool true)], args := [d1, d2] }
  | _ => none }
def auditTurnedRow : OpenClaim := { program := "yteeinckmmbdfoaa", sum := "944a91c45e828e26f7d9323bb954dd017fc53e7589e9c3ddad0c29cc30e1f826", func := "weighbridge/weighbridgelaw20.AuditTurned", spec := "auditTurned", unfollowed := true, recurses := true, plainKeys := false, apart := false }
def AuditTurnedSaid : Prop := auditTurnedRow.holds Try.pinned (OpenSpec.ofChange auditTurnedSpec)

/-- ITS FALSE NEIGHBOUR: 'it returns false'. Refute it at one input. -/
def auditTurnedWrong : ChangeSpec := { name := "auditTurned", fn := fun _ => fun
  | [d1, d2] => { results := [.lit (.bool false)], args := [d1, d2] }
  | _ => none }
def AuditTurnedWrongFalsely : Prop := auditTurnedRow.holds Try.pinned (OpenSpec.ofChange auditTurnedWrong)

/- THE SECOND FORM. 'bulk': how many values and letters a reading holds, each counted each time it is reached (what is shared counts as often as it is met; a slice's spare places count too). A statement '..UptoSaid' is the law's where the arguments, and the package variables that the reading takes, are together of bulk at most 1048576: NARROWER than '..Said'. Prove '..Said' where nothing that the law and all that it calls make is longer than what came in: it says more and counts as full. Else prove '..UptoSaid'. A law counts once. -/
mutual
def uptoBulk {H : Type} : DataW H → Nat
  | .lit (.string bytes) => bytes.length + 1
  | .lit _ => 1
  | .nil => 1
  | .ptr d => uptoBulk d + 1
  | .slice elems spare => uptoBulkAll elems + uptoBulkAll spare + 1
  | .agg parts => uptoBulkAll parts + 1
  | .iface _ d => uptoBulk d + 1
  | .map entries => uptoBulkEntries entries + 1
  | .held _ => 1
def uptoBulkAll {H : Type} : List (DataW H) → Nat
  | [] => 0
  | d :: r => uptoBulk d + uptoBulkAll r
def uptoBulkEntries {H : Type} : List (Lit × DataW H) → Nat
  | [] => 0
  | x :: r => uptoBulkEntry x + uptoBulkEntries r
def uptoBulkEntry {H : Type} : Lit × DataW H → Nat
  | (.string bytes, d) => bytes.length + uptoBulk d + 1
  | (_, d) => uptoBulk d + 1
 end
def uptoSmall : (H : Type) → List (DataW H) → Bool := fun _ ds => decide (uptoBulkAll ds ≤ 1048576)
def OpenSpec.upto (s : _root_.Go.ChangeSpec) : _root_.Go.OpenSpec := { _root_.Go.OpenSpec.ofChange s with cond := some uptoSmall }

/-- 'weighbridgelaw20.AuditSums', WHERE WHAT IT READS IS OF BULK AT MOST 1048576: true; the input reads as it did. -/
def auditSumsUptoRow : OpenClaim := { program := "yteeinckmmbdfoaa", sum := "944a91c45e828e26f7d9323bb954dd017fc53e7589e9c3ddad0c29cc30e1f826", func := "weighbridge/weighbridgelaw20.AuditSums", spec := "auditSums", unfollowed := true, recurses := true, plainKeys := false, apart := false, narrowed := true }
def AuditSumsUptoSaid : Prop := auditSumsUptoRow.holds Try.pinned (OpenSpec.upto auditSumsSpec)

/-- 'weighbridgelaw20.AuditMost', WHERE WHAT IT READS IS OF BULK AT MOST 1048576: true; the input reads as it did. -/
def auditMostUptoRow : OpenClaim := { program := "yteeinckmmbdfoaa", sum := "944a91c45e828e26f7d9323bb954dd017fc53e7589e9c3ddad0c29cc30e1f826", func := "weighbridge/weighbridgelaw20.AuditMost", spec := "auditMost", unfollowed := true, recurses := true, plainKeys := false, apart := false, narrowed := true }
def AuditMostUptoSaid : Prop := auditMostUptoRow.holds Try.pinned (OpenSpec.upto auditMostSpec)

/-- 'weighbridgelaw20.AuditApart', WHERE WHAT IT READS IS OF BULK AT MOST 1048576: true; the input reads as it did. -/
def auditApartUptoRow : OpenClaim := { program := "yteeinckmmbdfoaa", sum := "944a91c45e828e26f7d9323bb954dd017fc53e7589e9c3ddad0c29cc30e1f826", func := "weighbridge/weighbridgelaw20.AuditApart", spec := "auditApart", unfollowed := true, recurses := true, plainKeys := false, apart := false, narrowed := true }
def AuditApartUptoSaid : Prop := auditApartUptoRow.holds Try.pinned (OpenSpec.upto auditApartSpec)

/-- 'weighbridgelaw20.AuditTurned', WHERE WHAT IT READS IS OF BULK AT MOST 1048576: true; the input reads as it did. -/
def auditTurnedUptoRow : OpenClaim := { program := "yteeinckmmbdfoaa", sum := "944a91c45e828e26f7d9323bb954dd017fc53e7589e9c3ddad0c29cc30e1f826", func := "weighbridge/weighbridgelaw20.AuditTurned", spec := "auditTurned", unfollowed := true, recurses := true, plainKeys := false, apart := false, narrowed := true }
def AuditTurnedUptoSaid : Prop := auditTurnedUptoRow.holds Try.pinned (OpenSpec.upto auditTurnedSpec)

end Rows
end Go.Proofs.Yteeinckmmbdfoaa

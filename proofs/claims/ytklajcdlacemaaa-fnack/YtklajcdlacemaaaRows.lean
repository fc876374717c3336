/-
  No cell of these rows narrows 'for every input' (looked for: loops, veiled, ifaces, maps, wideKeys, modest, calm, conditions, laid).
  DERIVED. THE GIVEN ROWS OF THIS SEAT. 5 by the template 'for every input the law returns true; each argument reads behind the call as it read before'; 0 by the template 'total and deterministic' (their statements: YtklajcdlacemaaaTotals.lean).
  GIVEN WITH THE SEED: the statements are not yours to turn. If you find one false, say at which input.
  Laid BY PROGRAM, IN A SANDBOX (cutbox-rows.mjs): the forced cells as the released guide's own fill.sh prints them over the translation a91e0bda3c64bad4… (all of the seat's roots in one cut). By AI agents, Wed Nov 11 2026. No macro, syntax, notation, axiom, sorry.
-/
import Derived.Test.YtklajcdlacemaaaChecked
import GoSem.Claim
import GoSem.ClaimJoined
import GoSem.ClaimMapViews
import Derived.JoinedTies
import Derived.KernelRfl
namespace Go.Proofs.Ytklajcdlacemaaa
/- THE CELL 'sum', in the pinned program and in every row, IS THE sha256 OF THE DUMP (.gsa) THAT YtklajcdlacemaaaProg.lean LOADS. Nothing in Lean hashes anything: it is a label: what it is worth is what the hold of that sum in a sandbox is worth. -/
noncomputable def Try.pinned : Pinned := { name := "ytklajcdlacemaaa", sum := "a91e0bda3c64bad42a2f8123f75f6ddc366273b9746ad2c0788a8da6d718f640", checked := Try.checked }
namespace Rows
def none {H : Type} : Left H := { results := [], args := [] }

/-- 'laws.FnAck': WHATEVER THE INPUT: true; the input reads as it did. -/
def fnAckSpec : ChangeSpec := { name := "fnAck", fn := fun _ => fun
  | [d1, d2] => { results := [.lit (.bool true)], args := [d1, d2] }
  | _ => none }
def fnAckRow : OpenClaim := { program := "ytklajcdlacemaaa", sum := "a91e0bda3c64bad42a2f8123f75f6ddc366273b9746ad2c0788a8da6d718f640", func := "loop.example/g00535/laws.FnAck", spec := "fnAck", apart := false }
def FnAckSaid : Prop := fnAckRow.holds Try.pinned (OpenSpec.ofChange fnAckSpec)

/-- ITS FALSE NEIGHBOUR: 'it returns false'. Refute it at one input. -/
def fnAckWrong : ChangeSpec := { name := "fnAck", fn := fun _ => fun
  | [d1, d2] => { results := [.lit (.bool false)], args := [d1, d2] }
  | _ => none }
def FnAckWrongFalsely : Prop := fnAckRow.holds Try.pinned (OpenSpec.ofChange fnAckWrong)

/-- 'laws.FnExactNewGroup': WHATEVER THE INPUT: true; the input reads as it did. -/
def fnExactNewGroupSpec : ChangeSpec := { name := "fnExactNewGroup", fn := fun _ => fun
  | [] => { results := [.lit (.bool true)], args := [] }
  | _ => none }
def fnExactNewGroupRow : OpenClaim := { program := "ytklajcdlacemaaa", sum := "a91e0bda3c64bad42a2f8123f75f6ddc366273b9746ad2c0788a8da6d718f640", func := "loop.example/g00535/laws.FnExactNewGroup", spec := "fnExactNewGroup", apart := false }
def FnExactNewGroupSaid : Prop := fnExactNewGroupRow.holds Try.pinned (OpenSpec.ofChange fnExactNewGroupSpec)

/-- ITS FALSE NEIGHBOUR: 'it returns false'. Refute it at one input. -/
def fnExactNewGroupWrong : ChangeSpec := { name := "fnExactNewGroup", fn := fun _ => fun
  | [] => { results := [.lit (.bool false)], args := [] }
  | _ => none }
def FnExactNewGroupWrongFalsely : Prop := fnExactNewGroupRow.holds Try.pinned (OpenSpec.ofChange fnExactNewGroupWrong)

/-- 'laws.FnExactGroupOK': WHATEVER THE INPUT: true; the input reads as it did. -/
def fnExactGroupOKSpec : ChangeSpec := { name := "fnExactGroupOK", fn := fun _ => fun
  | [d] => { results := [.lit (.bool true)], args := [d] }
  | _ => none }
def fnExactGroupOKRow : OpenClaim := { program := "ytklajcdlacemaaa", sum := "a91e0bda3c64bad42a2f8123f75f6ddc366273b9746ad2c0788a8da6d718f640", func := "loop.example/g00535/laws.FnExactGroupOK", spec := "fnExactGroupOK", apart := false }
def FnExactGroupOKSaid : Prop := fnExactGroupOKRow.holds Try.pinned (OpenSpec.ofChange fnExactGroupOKSpec)

/-- ITS FALSE NEIGHBOUR: 'it returns false'. Refute it at one input. -/
def fnExactGroupOKWrong : ChangeSpec := { name := "fnExactGroupOK", fn := fun _ => fun
  | [d] => { results := [.lit (.bool false)], args := [d] }
  | _ => none }
def FnExactGroupOKWrongFalsely : Prop := fnExactGroupOKRow.holds Try.pinned (OpenSpec.ofChange fnExactGroupOKWrong)

/-- 'laws.FnExactTakeover': WHATEVER THE INPUT: true; the input reads as it did. -/
def fnExactTakeoverSpec : ChangeSpec := { name := "fnExactTakeover", fn := fun _ => fun
  | [d1, d2] => { results := [.lit (.bool true)], args := [d1, d2] }
  | _ => none }
def fnExactTakeoverRow : OpenClaim := { program := "ytklajcdlacemaaa", sum := "a91e0bda3c64bad42a2f8123f75f6ddc366273b9746ad2c0788a8da6d718f640", func := "loop.example/g00535/laws.FnExactTakeover", spec := "fnExactTakeover", apart := false }
def FnExactTakeoverSaid : Prop := fnExactTakeoverRow.holds Try.pinned (OpenSpec.ofChange fnExactTakeoverSpec)

/-- ITS FALSE NEIGHBOUR: 'it returns false'. Refute it at one input. -/
def fnExactTakeoverWrong : ChangeSpec := { name := "fnExactTakeover", fn := fun _ => fun
  | [d1, d2] => { results := [.lit (.bool false)], args := [d1, d2] }
  | _ => none }
def FnExactTakeoverWrongFalsely : Prop := fnExactTakeoverRow.holds Try.pinned (OpenSpec.ofChange fnExactTakeoverWrong)

/-- 'laws.FnExactAck': WHATEVER THE INPUT: true; the input reads as it did. -/
def fnExactAckSpec : ChangeSpec := { name := "fnExactAck", fn := fun _ => fun
  | [d1, d2, d3] => { results := [.lit (.bool true)], args := [d1, d2, d3] }
  | _ => none }
def fnExactAckRow : OpenClaim := { program := "ytklajcdlacemaaa", sum := "a91e0bda3c64bad42a2f8123f75f6ddc366273b9746ad2c0788a8da6d718f640", func := "loop.example/g00535/laws.FnExactAck", spec := "fnExactAck", apart := false }
def FnExactAckSaid : Prop := fnExactAckRow.holds Try.pinned (OpenSpec.ofChange fnExactAckSpec)

/-- ITS FALSE NEIGHBOUR: 'it returns false'. Refute it at one input. -/
def fnExactAckWrong : ChangeSpec := { name := "fnExactAck", fn := fun _ => fun
  | [d1, d2, d3] => { results := [.lit (.bool false)], args := [d1, d2, d3] }
  | _ => none }
def FnExactAckWrongFalsely : Prop := fnExactAckRow.holds Try.pinned (OpenSpec.ofChange fnExactAckWrong)

/- THE SECOND FORM. 'bulk': how many values and letters a reading holds, each counted each time it is reached (what is shared counts as often as it is met; a slice's spare places count too). A statement '..UptoSaid' is the law's where the arguments, and the package variables that the reading takes, are together of bulk at most 1048576: NARROWER than '..Said'. Prove '..Said' where nothing that the law and all that it calls make is longer than what came in: it says more and counts as full. Else prove '..UptoSaid'. A law counts once. -/
mutual
def uptoBulk {H : Type} : DataW H → Nat
  | .lit (.string bytes) => bytes.length + 1
  | .lit _ => 1
  | .nil => 1
  | .ptr d => uptoBulk d + 1
  | .slice elems spare => uptoBulkAll elems + uptoBulkAll spare + 1
  | .agg parts => uptoBulkAll parts + 1
  | .iface _ d => uptoBulk d + 1
  | .map entries => uptoBulkEntries entries + 1
  | .held _ => 1
def uptoBulkAll {H : Type} : List (DataW H) → Nat
  | [] => 0
  | d :: r => uptoBulk d + uptoBulkAll r
def uptoBulkEntries {H : Type} : List (Lit × DataW H) → Nat
  | [] => 0
  | x :: r => uptoBulkEntry x + uptoBulkEntries r
def uptoBulkEntry {H : Type} : Lit × DataW H → Nat
  | (.string bytes, d) => bytes.length + uptoBulk d + 1
  | (_, d) => uptoBulk d + 1
 end
def uptoSmall : (H : Type) → List (DataW H) → Bool := fun _ ds => decide (uptoBulkAll ds ≤ 1048576)
def OpenSpec.upto (s : _root_.Go.ChangeSpec) : _root_.Go.OpenSpec := { _root_.Go.OpenSpec.ofChange s with cond := some uptoSmall }

/-- 'laws.FnAck', WHERE WHAT IT READS IS OF BULK AT MOST 1048576: true; the input reads as it did. -/
def fnAckUptoRow : OpenClaim := { program := "ytklajcdlacemaaa", sum := "a91e0bda3c64bad42a2f8123f75f6ddc366273b9746ad2c0788a8da6d718f640", func := "loop.example/g00535/laws.FnAck", spec := "fnAck", apart := false, narrowed := true }
def FnAckUptoSaid : Prop := fnAckUptoRow.holds Try.pinned (OpenSpec.upto fnAckSpec)

/-- 'laws.FnExactNewGroup', WHERE WHAT IT READS IS OF BULK AT MOST 1048576: true; the input reads as it did. -/
def fnExactNewGroupUptoRow : OpenClaim := { program := "ytklajcdlacemaaa", sum := "a91e0bda3c64bad42a2f8123f75f6ddc366273b9746ad2c0788a8da6d718f640", func := "loop.example/g00535/laws.FnExactNewGroup", spec := "fnExactNewGroup", apart := false, narrowed := true }
def FnExactNewGroupUptoSaid : Prop := fnExactNewGroupUptoRow.holds Try.pinned (OpenSpec.upto fnExactNewGroupSpec)

/-- 'laws.FnExactGroupOK', WHERE WHAT IT READS IS OF BULK AT MOST 1048576: true; the input reads as it did. -/
def fnExactGroupOKUptoRow : OpenClaim := { program := "ytklajcdlacemaaa", sum := "a91e0bda3c64bad42a2f8123f75f6ddc366273b9746ad2c0788a8da6d718f640", func := "loop.example/g00535/laws.FnExactGroupOK", spec := "fnExactGroupOK", apart := false, narrowed := true }
def FnExactGroupOKUptoSaid : Prop := fnExactGroupOKUptoRow.holds Try.pinned (OpenSpec.upto fnExactGroupOKSpec)

/-- 'laws.FnExactTakeover', WHERE WHAT IT READS IS OF BULK AT MOST 1048576: true; the input reads as it did. -/
def fnExactTakeoverUptoRow : OpenClaim := { program := "ytklajcdlacemaaa", sum := "a91e0bda3c64bad42a2f8123f75f6ddc366273b9746ad2c0788a8da6d718f640", func := "loop.example/g00535/laws.FnExactTakeover", spec := "fnExactTakeover", apart := false, narrowed := true }
def FnExactTakeoverUptoSaid : Prop := fnExactTakeoverUptoRow.holds Try.pinned (OpenSpec.upto fnExactTakeoverSpec)

/-- 'laws.FnExactAck', WHERE WHAT IT READS IS OF BULK AT MOST 1048576: true; the input reads as it did. -/
def fnExactAckUptoRow : OpenClaim := { program := "ytklajcdlacemaaa", sum := "a91e0bda3c64bad42a2f8123f75f6ddc366273b9746ad2c0788a8da6d718f640", func := "loop.example/g00535/laws.FnExactAck", spec := "fnExactAck", apart := false, narrowed := true }
def FnExactAckUptoSaid : Prop := fnExactAckUptoRow.holds Try.pinned (OpenSpec.upto fnExactAckSpec)

end Rows
end Go.Proofs.Ytklajcdlacemaaa

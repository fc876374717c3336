/-
  No cell of these rows narrows 'for every input' (looked for: loops, veiled, ifaces, maps, wideKeys, modest, calm, conditions, laid).
  DERIVED. THE GIVEN ROWS OF THIS SEAT. 6 by the template 'for every input the law returns true; each argument reads behind the call as it read before'; 0 by the template 'total and deterministic' (their statements: YtbleofekjjcnjaiTotals.lean).
  GIVEN WITH THE SEED: the statements are not yours to turn. If you find one false, say at which input.
  Laid BY PROGRAM, IN A SANDBOX (cutbox-rows.mjs): the forced cells as the released guide's own fill.sh prints them over the translation 2a03a4fb54f4cad1… (all of the seat's roots in one cut). By AI agents, Wed Nov 11 2026. No macro, syntax, notation, axiom, sorry.
-/
import Derived.Test.YtbleofekjjcnjaiChecked
import GoSem.Claim
import GoSem.ClaimJoined
import GoSem.ClaimMapViews
import Derived.JoinedTies
import Derived.KernelRfl
namespace Go.Proofs.Ytbleofekjjcnjai
/- THE CELL 'sum', in the pinned program and in every row, IS THE sha256 OF THE DUMP (.gsa) THAT YtbleofekjjcnjaiProg.lean LOADS. Nothing in Lean hashes anything: it is a label: what it is worth is what the hold of that sum in a sandbox is worth. -/
noncomputable def Try.pinned : Pinned := { name := "ytbleofekjjcnjai", sum := "2a03a4fb54f4cad1ed40c98afc38e2945f7f0177deff11ba52af75bbb0c22ff8", checked := Try.checked }
namespace Rows
def none {H : Type} : Left H := { results := [], args := [] }

/-- 'laws.FnExactOrderDots': WHATEVER THE INPUT: true; the input reads as it did. -/
def fnExactOrderDotsSpec : ChangeSpec := { name := "fnExactOrderDots", fn := fun _ => fun
  | [d1, d2] => { results := [.lit (.bool true)], args := [d1, d2] }
  | _ => none }
def fnExactOrderDotsRow : OpenClaim := { program := "ytbleofekjjcnjai", sum := "2a03a4fb54f4cad1ed40c98afc38e2945f7f0177deff11ba52af75bbb0c22ff8", func := "loop.example/g00535/laws.FnExactOrderDots", spec := "fnExactOrderDots", apart := false }
def FnExactOrderDotsSaid : Prop := fnExactOrderDotsRow.holds Try.pinned (OpenSpec.ofChange fnExactOrderDotsSpec)

/-- ITS FALSE NEIGHBOUR: 'it returns false'. Refute it at one input. -/
def fnExactOrderDotsWrong : ChangeSpec := { name := "fnExactOrderDots", fn := fun _ => fun
  | [d1, d2] => { results := [.lit (.bool false)], args := [d1, d2] }
  | _ => none }
def FnExactOrderDotsWrongFalsely : Prop := fnExactOrderDotsRow.holds Try.pinned (OpenSpec.ofChange fnExactOrderDotsWrong)

/-- 'laws.FnExactObjOK': WHATEVER THE INPUT: true; the input reads as it did. -/
def fnExactObjOKSpec : ChangeSpec := { name := "fnExactObjOK", fn := fun _ => fun
  | [d] => { results := [.lit (.bool true)], args := [d] }
  | _ => none }
def fnExactObjOKRow : OpenClaim := { program := "ytbleofekjjcnjai", sum := "2a03a4fb54f4cad1ed40c98afc38e2945f7f0177deff11ba52af75bbb0c22ff8", func := "loop.example/g00535/laws.FnExactObjOK", spec := "fnExactObjOK", apart := false }
def FnExactObjOKSaid : Prop := fnExactObjOKRow.holds Try.pinned (OpenSpec.ofChange fnExactObjOKSpec)

/-- ITS FALSE NEIGHBOUR: 'it returns false'. Refute it at one input. -/
def fnExactObjOKWrong : ChangeSpec := { name := "fnExactObjOK", fn := fun _ => fun
  | [d] => { results := [.lit (.bool false)], args := [d] }
  | _ => none }
def FnExactObjOKWrongFalsely : Prop := fnExactObjOKRow.holds Try.pinned (OpenSpec.ofChange fnExactObjOKWrong)

/-- 'laws.FnExactJoin': WHATEVER THE INPUT: true; the input reads as it did. -/
def fnExactJoinSpec : ChangeSpec := { name := "fnExactJoin", fn := fun _ => fun
  | [d1, d2] => { results := [.lit (.bool true)], args := [d1, d2] }
  | _ => none }
def fnExactJoinRow : OpenClaim := { program := "ytbleofekjjcnjai", sum := "2a03a4fb54f4cad1ed40c98afc38e2945f7f0177deff11ba52af75bbb0c22ff8", func := "loop.example/g00535/laws.FnExactJoin", spec := "fnExactJoin", apart := false }
def FnExactJoinSaid : Prop := fnExactJoinRow.holds Try.pinned (OpenSpec.ofChange fnExactJoinSpec)

/-- ITS FALSE NEIGHBOUR: 'it returns false'. Refute it at one input. -/
def fnExactJoinWrong : ChangeSpec := { name := "fnExactJoin", fn := fun _ => fun
  | [d1, d2] => { results := [.lit (.bool false)], args := [d1, d2] }
  | _ => none }
def FnExactJoinWrongFalsely : Prop := fnExactJoinRow.holds Try.pinned (OpenSpec.ofChange fnExactJoinWrong)

/-- 'laws.FnExactWrite': WHATEVER THE INPUT: true; the input reads as it did. -/
def fnExactWriteSpec : ChangeSpec := { name := "fnExactWrite", fn := fun _ => fun
  | [d1, d2, d3, d4, d5] => { results := [.lit (.bool true)], args := [d1, d2, d3, d4, d5] }
  | _ => none }
def fnExactWriteRow : OpenClaim := { program := "ytbleofekjjcnjai", sum := "2a03a4fb54f4cad1ed40c98afc38e2945f7f0177deff11ba52af75bbb0c22ff8", func := "loop.example/g00535/laws.FnExactWrite", spec := "fnExactWrite", inPlace := ["slices.overlaps[loop.example/g00535/impl.Sibling]"], unfollowed := true, recurses := true, apart := false }
def FnExactWriteSaid : Prop := fnExactWriteRow.holds Try.pinned (OpenSpec.ofChange fnExactWriteSpec)

/-- ITS FALSE NEIGHBOUR: 'it returns false'. Refute it at one input. -/
def fnExactWriteWrong : ChangeSpec := { name := "fnExactWrite", fn := fun _ => fun
  | [d1, d2, d3, d4, d5] => { results := [.lit (.bool false)], args := [d1, d2, d3, d4, d5] }
  | _ => none }
def FnExactWriteWrongFalsely : Prop := fnExactWriteRow.holds Try.pinned (OpenSpec.ofChange fnExactWriteWrong)

/-- 'laws.FnExactLiveValues': WHATEVER THE INPUT: true; the input reads as it did. -/
def fnExactLiveValuesSpec : ChangeSpec := { name := "fnExactLiveValues", fn := fun _ => fun
  | [d] => { results := [.lit (.bool true)], args := [d] }
  | _ => none }
def fnExactLiveValuesRow : OpenClaim := { program := "ytbleofekjjcnjai", sum := "2a03a4fb54f4cad1ed40c98afc38e2945f7f0177deff11ba52af75bbb0c22ff8", func := "loop.example/g00535/laws.FnExactLiveValues", spec := "fnExactLiveValues", apart := false }
def FnExactLiveValuesSaid : Prop := fnExactLiveValuesRow.holds Try.pinned (OpenSpec.ofChange fnExactLiveValuesSpec)

/-- ITS FALSE NEIGHBOUR: 'it returns false'. Refute it at one input. -/
def fnExactLiveValuesWrong : ChangeSpec := { name := "fnExactLiveValues", fn := fun _ => fun
  | [d] => { results := [.lit (.bool false)], args := [d] }
  | _ => none }
def FnExactLiveValuesWrongFalsely : Prop := fnExactLiveValuesRow.holds Try.pinned (OpenSpec.ofChange fnExactLiveValuesWrong)

/-- 'laws.FnExactCovers': WHATEVER THE INPUT: true; the input reads as it did. -/
def fnExactCoversSpec : ChangeSpec := { name := "fnExactCovers", fn := fun _ => fun
  | [d1, d2] => { results := [.lit (.bool true)], args := [d1, d2] }
  | _ => none }
def fnExactCoversRow : OpenClaim := { program := "ytbleofekjjcnjai", sum := "2a03a4fb54f4cad1ed40c98afc38e2945f7f0177deff11ba52af75bbb0c22ff8", func := "loop.example/g00535/laws.FnExactCovers", spec := "fnExactCovers", apart := false }
def FnExactCoversSaid : Prop := fnExactCoversRow.holds Try.pinned (OpenSpec.ofChange fnExactCoversSpec)

/-- ITS FALSE NEIGHBOUR: 'it returns false'. Refute it at one input. -/
def fnExactCoversWrong : ChangeSpec := { name := "fnExactCovers", fn := fun _ => fun
  | [d1, d2] => { results := [.lit (.bool false)], args := [d1, d2] }
  | _ => none }
def FnExactCoversWrongFalsely : Prop := fnExactCoversRow.holds Try.pinned (OpenSpec.ofChange fnExactCoversWrong)

/- THE SECOND FORM. 'bulk': how many values and letters a reading holds, each counted each time it is reached (what is shared counts as often as it is met; a slice's spare places count too). A statement '..UptoSaid' is the law's where the arguments, and the package variables that the reading takes, are together of bulk at most 1048576: NARROWER than '..Said'. Prove '..Said' where nothing that the law and all that it calls make is longer than what came in: it says more and counts as full. Else prove '..UptoSaid'. A law counts once. -/
mutual
def uptoBulk {H : Type} : DataW H → Nat
  | .lit (.string bytes) => bytes.length + 1
  | .lit _ => 1
  | .nil => 1
  | .ptr d => uptoBulk d + 1
  | .slice elems spare => uptoBulkAll elems + uptoBulkAll spare + 1
  | .agg parts => uptoBulkAll parts + 1
  | .iface _ d => uptoBulk d + 1
  | .map entries => uptoBulkEntries entries + 1
  | .held _ => 1
def uptoBulkAll {H : Type} : List (DataW H) → Nat
  | [] => 0
  | d :: r => uptoBulk d + uptoBulkAll r
def uptoBulkEntries {H : Type} : List (Lit × DataW H) → Nat
  | [] => 0
  | x :: r => uptoBulkEntry x + uptoBulkEntries r
def uptoBulkEntry {H : Type} : Lit × DataW H → Nat
  | (.string bytes, d) => bytes.length + uptoBulk d + 1
  | (_, d) => uptoBulk d + 1
 end
def uptoSmall : (H : Type) → List (DataW H) → Bool := fun _ ds => decide (uptoBulkAll ds ≤ 1048576)
def OpenSpec.upto (s : _root_.Go.ChangeSpec) : _root_.Go.OpenSpec := { _root_.Go.OpenSpec.ofChange s with cond := some uptoSmall }

/-- 'laws.FnExactOrderDots', WHERE WHAT IT READS IS OF BULK AT MOST 1048576: true; the input reads as it did. -/
def fnExactOrderDotsUptoRow : OpenClaim := { program := "ytbleofekjjcnjai", sum := "2a03a4fb54f4cad1ed40c98afc38e2945f7f0177deff11ba52af75bbb0c22ff8", func := "loop.example/g00535/laws.FnExactOrderDots", spec := "fnExactOrderDots", apart := false, narrowed := true }
def FnExactOrderDotsUptoSaid : Prop := fnExactOrderDotsUptoRow.holds Try.pinned (OpenSpec.upto fnExactOrderDotsSpec)

/-- 'laws.FnExactObjOK', WHERE WHAT IT READS IS OF BULK AT MOST 1048576: true; the input reads as it did. -/
def fnExactObjOKUptoRow : OpenClaim := { program := "ytbleofekjjcnjai", sum := "2a03a4fb54f4cad1ed40c98afc38e2945f7f0177deff11ba52af75bbb0c22ff8", func := "loop.example/g00535/laws.FnExactObjOK", spec := "fnExactObjOK", apart := false, narrowed := true }
def FnExactObjOKUptoSaid : Prop := fnExactObjOKUptoRow.holds Try.pinned (OpenSpec.upto fnExactObjOKSpec)

/-- 'laws.FnExactJoin', WHERE WHAT IT READS IS OF BULK AT MOST 1048576: true; the input reads as it did. -/
def fnExactJoinUptoRow : OpenClaim := { program := "ytbleofekjjcnjai", sum := "2a03a4fb54f4cad1ed40c98afc38e2945f7f0177deff11ba52af75bbb0c22ff8", func := "loop.example/g00535/laws.FnExactJoin", spec := "fnExactJoin", apart := false, narrowed := true }
def FnExactJoinUptoSaid : Prop := fnExactJoinUptoRow.holds Try.pinned (OpenSpec.upto fnExactJoinSpec)

/-- 'laws.FnExactWrite', WHERE WHAT IT READS IS OF BULK AT MOST 1048576: true; the input reads as it did. -/
def fnExactWriteUptoRow : OpenClaim := { program := "ytbleofekjjcnjai", sum := "2a03a4fb54f4cad1ed40c98afc38e2945f7f0177deff11ba52af75bbb0c22ff8", func := "loop.example/g00535/laws.FnExactWrite", spec := "fnExactWrite", inPlace := ["slices.overlaps[loop.example/g00535/impl.Sibling]"], unfollowed := true, recurses := true, apart := false, narrowed := true }
def FnExactWriteUptoSaid : Prop := fnExactWriteUptoRow.holds Try.pinned (OpenSpec.upto fnExactWriteSpec)

/-- 'laws.FnExactLiveValues', WHERE WHAT IT READS IS OF BULK AT MOST 1048576: true; the input reads as it did. -/
def fnExactLiveValuesUptoRow : OpenClaim := { program := "ytbleofekjjcnjai", sum := "2a03a4fb54f4cad1ed40c98afc38e2945f7f0177deff11ba52af75bbb0c22ff8", func := "loop.example/g00535/laws.FnExactLiveValues", spec := "fnExactLiveValues", apart := false, narrowed := true }
def FnExactLiveValuesUptoSaid : Prop := fnExactLiveValuesUptoRow.holds Try.pinned (OpenSpec.upto fnExactLiveValuesSpec)

/-- 'laws.FnExactCovers', WHERE WHAT IT READS IS OF BULK AT MOST 1048576: true; the input reads as it did. -/
def fnExactCoversUptoRow : OpenClaim := { program := "ytbleofekjjcnjai", sum := "2a03a4fb54f4cad1ed40c98afc38e2945f7f0177deff11ba52af75bbb0c22ff8", func := "loop.example/g00535/laws.FnExactCovers", spec := "fnExactCovers", apart := false, narrowed := true }
def FnExactCoversUptoSaid : Prop := fnExactCoversUptoRow.holds Try.pinned (OpenSpec.upto fnExactCoversSpec)

end Rows
end Go.Proofs.Ytbleofekjjcnjai

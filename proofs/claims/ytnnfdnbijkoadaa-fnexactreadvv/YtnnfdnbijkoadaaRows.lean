/-
  No cell of these rows narrows 'for every input' (looked for: loops, veiled, ifaces, maps, wideKeys, modest, calm, conditions, laid).
  DERIVED. THE GIVEN ROWS OF THIS SEAT. 3 by the template 'for every input the law returns true; each argument reads behind the call as it read before'; 0 by the template 'total and deterministic' (their statements: YtnnfdnbijkoadaaTotals.lean).
  GIVEN WITH THE SEED: the statements are not yours to turn. If you find one false, say at which input.
  Laid BY PROGRAM, IN A SANDBOX (cutbox-rows.mjs): the forced cells as the released guide's own fill.sh prints them over the translation 13c894362d6d75f2… (all of the seat's roots in one cut). By AI agents, Wed Nov 11 2026. No macro, syntax, notation, axiom, sorry.
-/
import Derived.Test.YtnnfdnbijkoadaaChecked
import GoSem.Claim
import GoSem.ClaimJoined
import GoSem.ClaimMapViews
import Derived.JoinedTies
import Derived.KernelRfl
namespace Go.Proofs.Ytnnfdnbijkoadaa
/- THE CELL 'sum', in the pinned program and in every row, IS THE sha256 OF THE DUMP (.gsa) THAT YtnnfdnbijkoadaaProg.lean LOADS. Nothing in Lean hashes anything: it is a label: what it is worth is what the hold of that sum in a sandbox is worth. -/
noncomputable def Try.pinned : Pinned := { name := "ytnnfdnbijkoadaa", sum := "13c894362d6d75f22619a7cb4d5d9ee4bb5337e45c9f0f88a0888123cb1c335e", checked := Try.checked }
namespace Rows
def none {H : Type} : Left H := { results := [], args := [] }

/-- 'laws.FnExactReadDot': WHATEVER THE INPUT: true; the input reads as it did. -/
def fnExactReadDotSpec : ChangeSpec := { name := "fnExactReadDot", fn := fun _ => fun
  | [d] => { results := [.lit (.bool true)], args := [d] }
  | _ => none }
def fnExactReadDotRow : OpenClaim := { program := "ytnnfdnbijkoadaa", sum := "13c894362d6d75f22619a7cb4d5d9ee4bb5337e45c9f0f88a0888123cb1c335e", func := "loop.example/g00535/laws.FnExactReadDot", spec := "fnExactReadDot", unfollowed := true, recurses := true, apart := false }
def FnExactReadDotSaid : Prop := fnExactReadDotRow.holds Try.pinned (OpenSpec.ofChange fnExactReadDotSpec)

/-- ITS FALSE NEIGHBOUR: 'it returns false'. Refute it at one input. -/
def fnExactReadDotWrong : ChangeSpec := { name := "fnExactReadDot", fn := fun _ => fun
  | [d] => { results := [.lit (.bool false)], args := [d] }
  | _ => none }
def FnExactReadDotWrongFalsely : Prop := fnExactReadDotRow.holds Try.pinned (OpenSpec.ofChange fnExactReadDotWrong)

/-- 'laws.FnExactReadVv': WHATEVER THE INPUT: true; the input reads as it did. -/
def fnExactReadVvSpec : ChangeSpec := { name := "fnExactReadVv", fn := fun _ => fun
  | [d] => { results := [.lit (.bool true)], args := [d] }
  | _ => none }
def fnExactReadVvRow : OpenClaim := { program := "ytnnfdnbijkoadaa", sum := "13c894362d6d75f22619a7cb4d5d9ee4bb5337e45c9f0f88a0888123cb1c335e", func := "loop.example/g00535/laws.FnExactReadVv", spec := "fnExactReadVv", unfollowed := true, recurses := true, apart := false }
def FnExactReadVvSaid : Prop := fnExactReadVvRow.holds Try.pinned (OpenSpec.ofChange fnExactReadVvSpec)

/-- ITS FALSE NEIGHBOUR: 'it returns false'. Refute it at one input. -/
def fnExactReadVvWrong : ChangeSpec := { name := "fnExactReadVv", fn := fun _ => fun
  | [d] => { results := [.lit (.bool false)], args := [d] }
  | _ => none }
def FnExactReadVvWrongFalsely : Prop := fnExactReadVvRow.holds Try.pinned (OpenSpec.ofChange fnExactReadVvWrong)

/-- 'laws.FnExactReadObj': WHATEVER THE INPUT: true; the input reads as it did. -/
def fnExactReadObjSpec : ChangeSpec := { name := "fnExactReadObj", fn := fun _ => fun
  | [d] => { results := [.lit (.bool true)], args := [d] }
  | _ => none }
def fnExactReadObjRow : OpenClaim := { program := "ytnnfdnbijkoadaa", sum := "13c894362d6d75f22619a7cb4d5d9ee4bb5337e45c9f0f88a0888123cb1c335e", func := "loop.example/g00535/laws.FnExactReadObj", spec := "fnExactReadObj", unfollowed := true, recurses := true, apart := false }
def FnExactReadObjSaid : Prop := fnExactReadObjRow.holds Try.pinned (OpenSpec.ofChange fnExactReadObjSpec)

/-- ITS FALSE NEIGHBOUR: 'it returns false'. Refute it at one input. -/
def fnExactReadObjWrong : ChangeSpec := { name := "fnExactReadObj", fn := fun _ => fun
  | [d] => { results := [.lit (.bool false)], args := [d] }
  | _ => none }
def FnExactReadObjWrongFalsely : Prop := fnExactReadObjRow.holds Try.pinned (OpenSpec.ofChange fnExactReadObjWrong)

/- THE SECOND FORM. 'bulk': how many values and letters a reading holds, each counted each time it is reached (what is shared counts as often as it is met; a slice's spare places count too). A statement '..UptoSaid' is the law's where the arguments, and the package variables that the reading takes, are together of bulk at most 1048576: NARROWER than '..Said'. Prove '..Said' where nothing that the law and all that it calls make is longer than what came in: it says more and counts as full. Else prove '..UptoSaid'. A law counts once. -/
mutual
def uptoBulk {H : Type} : DataW H → Nat
  | .lit (.string bytes) => bytes.length + 1
  | .lit _ => 1
  | .nil => 1
  | .ptr d => uptoBulk d + 1
  | .slice elems spare => uptoBulkAll elems + uptoBulkAll spare + 1
  | .agg parts => uptoBulkAll parts + 1
  | .iface _ d => uptoBulk d + 1
  | .map entries => uptoBulkEntries entries + 1
  | .held _ => 1
def uptoBulkAll {H : Type} : List (DataW H) → Nat
  | [] => 0
  | d :: r => uptoBulk d + uptoBulkAll r
def uptoBulkEntries {H : Type} : List (Lit × DataW H) → Nat
  | [] => 0
  | x :: r => uptoBulkEntry x + uptoBulkEntries r
def uptoBulkEntry {H : Type} : Lit × DataW H → Nat
  | (.string bytes, d) => bytes.length + uptoBulk d + 1
  | (_, d) => uptoBulk d + 1
 end
def uptoSmall : (H : Type) → List (DataW H) → Bool := fun _ ds => decide (uptoBulkAll ds ≤ 1048576)
def OpenSpec.upto (s : _root_.Go.ChangeSpec) : _root_.Go.OpenSpec := { _root_.Go.OpenSpec.ofChange s with cond := some uptoSmall }

/-- 'laws.FnExactReadDot', WHERE WHAT IT READS IS OF BULK AT MOST 1048576: true; the input reads as it did. -/
def fnExactReadDotUptoRow : OpenClaim := { program := "ytnnfdnbijkoadaa", sum := "13c894362d6d75f22619a7cb4d5d9ee4bb5337e45c9f0f88a0888123cb1c335e", func := "loop.example/g00535/laws.FnExactReadDot", spec := "fnExactReadDot", unfollowed := true, recurses := true, apart := false, narrowed := true }
def FnExactReadDotUptoSaid : Prop := fnExactReadDotUptoRow.holds Try.pinned (OpenSpec.upto fnExactReadDotSpec)

/-- 'laws.FnExactReadVv', WHERE WHAT IT READS IS OF BULK AT MOST 1048576: true; the input reads as it did. -/
def fnExactReadVvUptoRow : OpenClaim := { program := "ytnnfdnbijkoadaa", sum := "13c894362d6d75f22619a7cb4d5d9ee4bb5337e45c9f0f88a0888123cb1c335e", func := "loop.example/g00535/laws.FnExactReadVv", spec := "fnExactReadVv", unfollowed := true, recurses := true, apart := false, narrowed := true }
def FnExactReadVvUptoSaid : Prop := fnExactReadVvUptoRow.holds Try.pinned (OpenSpec.upto fnExactReadVvSpec)

/-- 'laws.FnExactReadObj', WHERE WHAT IT READS IS OF BULK AT MOST 1048576: true; the input reads as it did. -/
def fnExactReadObjUptoRow : OpenClaim := { program := "ytnnfdnbijkoadaa", sum := "13c894362d6d75f22619a7cb4d5d9ee4bb5337e45c9f0f88a0888123cb1c335e", func := "loop.example/g00535/laws.FnExactReadObj", spec := "fnExactReadObj", unfollowed := true, recurses := true, apart := false, narrowed := true }
def FnExactReadObjUptoSaid : Prop := fnExactReadObjUptoRow.holds Try.pinned (OpenSpec.upto fnExactReadObjSpec)

end Rows
end Go.Proofs.Ytnnfdnbijkoadaa

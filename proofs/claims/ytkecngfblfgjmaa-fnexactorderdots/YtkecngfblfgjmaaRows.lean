/-
  No cell of these rows narrows 'for every input' (looked for: loops, veiled, ifaces, maps, wideKeys, modest, calm, conditions, laid).
  DERIVED. THE GIVEN ROWS OF THIS SEAT. 2 by the template 'for every input the law returns true; each argument reads behind the call as it read before'; 0 by the template 'total and deterministic' (their statements: YtkecngfblfgjmaaTotals.lean).
  GIVEN WITH THE SEED: the statements are not yours to turn. If you find one false, say at which input.
  Laid BY PROGRAM, IN A SANDBOX (cutbox-rows.mjs): the forced cells as the released guide's own fill.sh prints them over the translation 30a402756b629ac8… (all of the seat's roots in one cut). By AI agents, Wed Nov 11 2026. No macro, syntax, notation, axiom, sorry.
-/
import Derived.Test.YtkecngfblfgjmaaChecked
import GoSem.Claim
import GoSem.ClaimJoined
import GoSem.ClaimMapViews
import Derived.JoinedTies
import Derived.KernelRfl
namespace Go.Proofs.Ytkecngfblfgjmaa
/- THE CELL 'sum', in the pinned program and in every row, IS THE sha256 OF THE DUMP (.gsa) THAT YtkecngfblfgjmaaProg.lean LOADS. Nothing in Lean hashes anything: it is a label: what it is worth is what the hold of that sum in a sandbox is worth. -/
noncomputable def Try.pinned : Pinned := { name := "ytkecngfblfgjmaa", sum := "30a402756b629ac8198c27fa83224ccf09aa4f10c7a0a34dd00aafd98345d13e", checked := Try.checked }
namespace Rows
def none {H : Type} : Left H := { results := [], args := [] }

/-- 'laws.FnExactOrderDots': WHATEVER THE INPUT: true; the input reads as it did. -/
def fnExactOrderDotsSpec : ChangeSpec := { name := "fnExactOrderDots", fn := fun _ => fun
  | [d1, d2] => { results := [.lit (.bool true)], args := [d1, d2] }
  | _ => none }
def fnExactOrderDotsRow : OpenClaim := { program := "ytkecngfblfgjmaa", sum := "30a402756b629ac8198c27fa83224ccf09aa4f10c7a0a34dd00aafd98345d13e", func := "loop.example/g00535/laws.FnExactOrderDots", spec := "fnExactOrderDots", apart := false }
def FnExactOrderDotsSaid : Prop := fnExactOrderDotsRow.holds Try.pinned (OpenSpec.ofChange fnExactOrderDotsSpec)

/-- ITS FALSE NEIGHBOUR: 'it returns false'. Refute it at one input. -/
def fnExactOrderDotsWrong : ChangeSpec := { name := "fnExactOrderDots", fn := fun _ => fun
  | [d1, d2] => { results := [.lit (.bool false)], args := [d1, d2] }
  | _ => none }
def FnExactOrderDotsWrongFalsely : Prop := fnExactOrderDotsRow.holds Try.pinned (OpenSpec.ofChange fnExactOrderDotsWrong)

/-- 'laws.FnExactObjOK': WHATEVER THE INPUT: true; the input reads as it did. -/
def fnExactObjOKSpec : ChangeSpec := { name := "fnExactObjOK", fn := fun _ => fun
  | [d] => { results := [.lit (.bool true)], args := [d] }
  | _ => none }
def fnExactObjOKRow : OpenClaim := { program := "ytkecngfblfgjmaa", sum := "30a402756b629ac8198c27fa83224ccf09aa4f10c7a0a34dd00aafd98345d13e", func := "loop.example/g00535/laws.FnExactObjOK", spec := "fnExactObjOK", apart := false }
def FnExactObjOKSaid : Prop := fnExactObjOKRow.holds Try.pinned (OpenSpec.ofChange fnExactObjOKSpec)

/-- ITS FALSE NEIGHBOUR: 'it returns false'. Refute it at one input. -/
def fnExactObjOKWrong : ChangeSpec := { name := "fnExactObjOK", fn := fun _ => fun
  | [d] => { results := [.lit (.bool false)], args := [d] }
  | _ => none }
def FnExactObjOKWrongFalsely : Prop := fnExactObjOKRow.holds Try.pinned (OpenSpec.ofChange fnExactObjOKWrong)

/- THE SECOND FORM. 'bulk': how many values and letters a reading holds, each counted each time it is reached (what is shared counts as often as it is met; a slice's spare places count too). A statement '..UptoSaid' is the law's where the arguments, and the package variables that the reading takes, are together of bulk at most 1048576: NARROWER than '..Said'. Prove '..Said' where nothing that the law and all that it calls make is longer than what came in: it says more and counts as full. Else prove '..UptoSaid'. A law counts once. -/
mutual
def uptoBulk {H : Type} : DataW H → Nat
  | .lit (.string bytes) => bytes.length + 1
  | .lit _ => 1
  | .nil => 1
  | .ptr d => uptoBulk d + 1
  | .slice elems spare => uptoBulkAll elems + uptoBulkAll spare + 1
  | .agg parts => uptoBulkAll parts + 1
  | .iface _ d => uptoBulk d + 1
  | .map entries => uptoBulkEntries entries + 1
  | .held _ => 1
def uptoBulkAll {H : Type} : List (DataW H) → Nat
  | [] => 0
  | d :: r => uptoBulk d + uptoBulkAll r
def uptoBulkEntries {H : Type} : List (Lit × DataW H) → Nat
  | [] => 0
  | x :: r => uptoBulkEntry x + uptoBulkEntries r
def uptoBulkEntry {H : Type} : Lit × DataW H → Nat
  | (.string bytes, d) => bytes.length + uptoBulk d + 1
  | (_, d) => uptoBulk d + 1
 end
def uptoSmall : (H : Type) → List (DataW H) → Bool := fun _ ds => decide (uptoBulkAll ds ≤ 1048576)
def OpenSpec.upto (s : _root_.Go.ChangeSpec) : _root_.Go.OpenSpec := { _root_.Go.OpenSpec.ofChange s with cond := some uptoSmall }

/-- 'laws.FnExactOrderDots', WHERE WHAT IT READS IS OF BULK AT MOST 1048576: true; the input reads as it did. -/
def fnExactOrderDotsUptoRow : OpenClaim := { program := "ytkecngfblfgjmaa", sum := "30a402756b629ac8198c27fa83224ccf09aa4f10c7a0a34dd00aafd98345d13e", func := "loop.example/g00535/laws.FnExactOrderDots", spec := "fnExactOrderDots", apart := false, narrowed := true }
def FnExactOrderDotsUptoSaid : Prop := fnExactOrderDotsUptoRow.holds Try.pinned (OpenSpec.upto fnExactOrderDotsSpec)

/-- 'laws.FnExactObjOK', WHERE WHAT IT READS IS OF BULK AT MOST 1048576: true; the input reads as it did. -/
def fnExactObjOKUptoRow : OpenClaim := { program := "ytkecngfblfgjmaa", sum := "30a402756b629ac8198c27fa83224ccf09aa4f10c7a0a34dd00aafd98345d13e", func := "loop.example/g00535/laws.FnExactObjOK", spec := "fnExactObjOK", apart := false, narrowed := true }
def FnExactObjOKUptoSaid : Prop := fnExactObjOKUptoRow.holds Try.pinned (OpenSpec.upto fnExactObjOKSpec)

end Rows
end Go.Proofs.Ytkecngfblfgjmaa

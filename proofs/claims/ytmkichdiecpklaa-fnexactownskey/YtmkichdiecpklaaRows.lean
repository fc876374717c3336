/-
  No cell of these rows narrows 'for every input' (looked for: loops, veiled, ifaces, maps, wideKeys, modest, calm, conditions, laid).
  DERIVED. THE GIVEN ROWS OF THIS SEAT. 3 by the template 'for every input the law returns true; each argument reads behind the call as it read before'; 0 by the template 'total and deterministic' (their statements: YtmkichdiecpklaaTotals.lean).
  GIVEN WITH THE SEED: the statements are not yours to turn. If you find one false, say at which input.
  Laid BY PROGRAM, IN A SANDBOX (cutbox-rows.mjs): the forced cells as the released guide's own fill.sh prints them over the translation aaca62ad7d6629e6… (all of the seat's roots in one cut). By AI agents, Wed Nov 11 2026. No macro, syntax, notation, axiom, sorry.
-/
import Derived.Test.YtmkichdiecpklaaChecked
import GoSem.Claim
import GoSem.ClaimJoined
import GoSem.ClaimMapViews
import Derived.JoinedTies
import Derived.KernelRfl
namespace Go.Proofs.Ytmkichdiecpklaa
/- THE CELL 'sum', in the pinned program and in every row, IS THE sha256 OF THE DUMP (.gsa) THAT YtmkichdiecpklaaProg.lean LOADS. Nothing in Lean hashes anything: it is a label: what it is worth is what the hold of that sum in a sandbox is worth. -/
noncomputable def Try.pinned : Pinned := { name := "ytmkichdiecpklaa", sum := "aaca62ad7d6629e6bba2d8cb0d5a3b4b4f5d643b3ab23be87e74348b68020373", checked := Try.checked }
namespace Rows
def none {H : Type} : Left H := { results := [], args := [] }

/-- 'laws.FnExactOwners': WHATEVER THE INPUT: true; the input reads as it did. -/
def fnExactOwnersSpec : ChangeSpec := { name := "fnExactOwners", fn := fun _ => fun
  | [d] => { results := [.lit (.bool true)], args := [d] }
  | _ => none }
def fnExactOwnersRow : OpenClaim := { program := "ytmkichdiecpklaa", sum := "aaca62ad7d6629e6bba2d8cb0d5a3b4b4f5d643b3ab23be87e74348b68020373", func := "loop.example/g00535/laws.FnExactOwners", spec := "fnExactOwners", apart := false }
def FnExactOwnersSaid : Prop := fnExactOwnersRow.holds Try.pinned (OpenSpec.ofChange fnExactOwnersSpec)

/-- ITS FALSE NEIGHBOUR: 'it returns false'. Refute it at one input. -/
def fnExactOwnersWrong : ChangeSpec := { name := "fnExactOwners", fn := fun _ => fun
  | [d] => { results := [.lit (.bool false)], args := [d] }
  | _ => none }
def FnExactOwnersWrongFalsely : Prop := fnExactOwnersRow.holds Try.pinned (OpenSpec.ofChange fnExactOwnersWrong)

/-- 'laws.FnExactFallback': WHATEVER THE INPUT: true; the input reads as it did. -/
def fnExactFallbackSpec : ChangeSpec := { name := "fnExactFallback", fn := fun _ => fun
  | [d] => { results := [.lit (.bool true)], args := [d] }
  | _ => none }
def fnExactFallbackRow : OpenClaim := { program := "ytmkichdiecpklaa", sum := "aaca62ad7d6629e6bba2d8cb0d5a3b4b4f5d643b3ab23be87e74348b68020373", func := "loop.example/g00535/laws.FnExactFallback", spec := "fnExactFallback", apart := false }
def FnExactFallbackSaid : Prop := fnExactFallbackRow.holds Try.pinned (OpenSpec.ofChange fnExactFallbackSpec)

/-- ITS FALSE NEIGHBOUR: 'it returns false'. Refute it at one input. -/
def fnExactFallbackWrong : ChangeSpec := { name := "fnExactFallback", fn := fun _ => fun
  | [d] => { results := [.lit (.bool false)], args := [d] }
  | _ => none }
def FnExactFallbackWrongFalsely : Prop := fnExactFallbackRow.holds Try.pinned (OpenSpec.ofChange fnExactFallbackWrong)

/-- 'laws.FnExactOwnsKey': WHATEVER THE INPUT: true; the input reads as it did. -/
def fnExactOwnsKeySpec : ChangeSpec := { name := "fnExactOwnsKey", fn := fun _ => fun
  | [d1, d2] => { results := [.lit (.bool true)], args := [d1, d2] }
  | _ => none }
def fnExactOwnsKeyRow : OpenClaim := { program := "ytmkichdiecpklaa", sum := "aaca62ad7d6629e6bba2d8cb0d5a3b4b4f5d643b3ab23be87e74348b68020373", func := "loop.example/g00535/laws.FnExactOwnsKey", spec := "fnExactOwnsKey", apart := false }
def FnExactOwnsKeySaid : Prop := fnExactOwnsKeyRow.holds Try.pinned (OpenSpec.ofChange fnExactOwnsKeySpec)

/-- ITS FALSE NEIGHBOUR: 'it returns false'. Refute it at one input. -/
def fnExactOwnsKeyWrong : ChangeSpec := { name := "fnExactOwnsKey", fn := fun _ => fun
  | [d1, d2] => { results := [.lit (.bool false)], args := [d1, d2] }
  | _ => none }
def FnExactOwnsKeyWrongFalsely : Prop := fnExactOwnsKeyRow.holds Try.pinned (OpenSpec.ofChange fnExactOwnsKeyWrong)

/- THE SECOND FORM. 'bulk': how many values and letters a reading holds, each counted each time it is reached (what is shared counts as often as it is met; a slice's spare places count too). A statement '..UptoSaid' is the law's where the arguments, and the package variables that the reading takes, are together of bulk at most 1048576: NARROWER than '..Said'. Prove '..Said' where nothing that the law and all that it calls make is longer than what came in: it says more and counts as full. Else prove '..UptoSaid'. A law counts once. -/
mutual
def uptoBulk {H : Type} : DataW H → Nat
  | .lit (.string bytes) => bytes.length + 1
  | .lit _ => 1
  | .nil => 1
  | .ptr d => uptoBulk d + 1
  | .slice elems spare => uptoBulkAll elems + uptoBulkAll spare + 1
  | .agg parts => uptoBulkAll parts + 1
  | .iface _ d => uptoBulk d + 1
  | .map entries => uptoBulkEntries entries + 1
  | .held _ => 1
def uptoBulkAll {H : Type} : List (DataW H) → Nat
  | [] => 0
  | d :: r => uptoBulk d + uptoBulkAll r
def uptoBulkEntries {H : Type} : List (Lit × DataW H) → Nat
  | [] => 0
  | x :: r => uptoBulkEntry x + uptoBulkEntries r
def uptoBulkEntry {H : Type} : Lit × DataW H → Nat
  | (.string bytes, d) => bytes.length + uptoBulk d + 1
  | (_, d) => uptoBulk d + 1
 end
def uptoSmall : (H : Type) → List (DataW H) → Bool := fun _ ds => decide (uptoBulkAll ds ≤ 1048576)
def OpenSpec.upto (s : _root_.Go.ChangeSpec) : _root_.Go.OpenSpec := { _root_.Go.OpenSpec.ofChange s with cond := some uptoSmall }

/-- 'laws.FnExactOwners', WHERE WHAT IT READS IS OF BULK AT MOST 1048576: true; the input reads as it did. -/
def fnExactOwnersUptoRow : OpenClaim := { program := "ytmkichdiecpklaa", sum := "aaca62ad7d6629e6bba2d8cb0d5a3b4b4f5d643b3ab23be87e74348b68020373", func := "loop.example/g00535/laws.FnExactOwners", spec := "fnExactOwners", apart := false, narrowed := true }
def FnExactOwnersUptoSaid : Prop := fnExactOwnersUptoRow.holds Try.pinned (OpenSpec.upto fnExactOwnersSpec)

/-- 'laws.FnExactFallback', WHERE WHAT IT READS IS OF BULK AT MOST 1048576: true; the input reads as it did. -/
def fnExactFallbackUptoRow : OpenClaim := { program := "ytmkichdiecpklaa", sum := "aaca62ad7d6629e6bba2d8cb0d5a3b4b4f5d643b3ab23be87e74348b68020373", func := "loop.example/g00535/laws.FnExactFallback", spec := "fnExactFallback", apart := false, narrowed := true }
def FnExactFallbackUptoSaid : Prop := fnExactFallbackUptoRow.holds Try.pinned (OpenSpec.upto fnExactFallbackSpec)

/-- 'laws.FnExactOwnsKey', WHERE WHAT IT READS IS OF BULK AT MOST 1048576: true; the input reads as it did. -/
def fnExactOwnsKeyUptoRow : OpenClaim := { program := "ytmkichdiecpklaa", sum := "aaca62ad7d6629e6bba2d8cb0d5a3b4b4f5d643b3ab23be87e74348b68020373", func := "loop.example/g00535/laws.FnExactOwnsKey", spec := "fnExactOwnsKey", apart := false, narrowed := true }
def FnExactOwnsKeyUptoSaid : Prop := fnExactOwnsKeyUptoRow.holds Try.pinned (OpenSpec.upto fnExactOwnsKeySpec)

end Rows
end Go.Proofs.Ytmkichdiecpklaa

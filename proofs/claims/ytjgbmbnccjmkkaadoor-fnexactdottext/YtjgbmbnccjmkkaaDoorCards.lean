/-
  DERIVED. GIVEN WITH THE SEED: THE CARDS: each row of YtjgbmbnccjmkkaaDoorRows.lean that lists a variable, with what it lists TIED to the program's text (the seventh form; the later family's looks); each row that meets fmt, with fmt's text TOLD by the authors' own Lean function (tested against real Go, not proved from fmt's source: count such statements apart). THE CARD IS WHAT COUNTS. Prove the row's statement (the work); the ties are given (YtjgbmbnccjmkkaaDoorTie.lean); close each card by the builder's one call (the guide's Derived/Test/ToyasCard.lean, 'card_holds'). Laid BY PROGRAM, IN A SANDBOX (cutbox-door.mjs). By AI agents, Wed Nov 11 2026. No macro, syntax, notation, axiom, sorry.
-/
import Derived.Test.YtjgbmbnccjmkkaaDoorRows
import GoSem.ClaimSeven
namespace Go.Proofs.YtjgbmbnccjmkkaaDoor
namespace Rows

/-- THE TIED CARD OF 'laws.FnExactDotText'. -/
def fnExactDotTextCard : Claim7 := { stood := { row := fnExactDotTextRow, standIns := [], harness := (true, "cd393b49fae4a1a6902f49d82d3ed766dc6043139f1232a8593c8fa784864c35"), looks := false }, kinds := [], alts := [], laidByText := true, laidKinds := [.data, .data, .data], laidTests := true, laidLooks := .later }
def FnExactDotTextCardSaid : Prop := Claim7.holds Tryd.pinned (.plain (OpenSpec.ofChange fnExactDotTextSpec)) fnExactDotTextCard

/-- THE SECOND FORM's CARD OF 'laws.FnExactDotText'. -/
def fnExactDotTextUptoCard : Claim7 := { stood := { row := fnExactDotTextUptoRow, standIns := [], harness := (true, "cd393b49fae4a1a6902f49d82d3ed766dc6043139f1232a8593c8fa784864c35"), looks := false }, kinds := [], alts := [], laidByText := true, laidKinds := [.data, .data, .data], laidTests := true, laidLooks := .later }
def FnExactDotTextUptoCardSaid : Prop := Claim7.holds Tryd.pinned (.plain (OpenSpec.upto fnExactDotTextSpec)) fnExactDotTextUptoCard
end Rows
end Go.Proofs.YtjgbmbnccjmkkaaDoor

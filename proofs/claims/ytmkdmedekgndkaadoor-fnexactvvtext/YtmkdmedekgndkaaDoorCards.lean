/-
  DERIVED. GIVEN WITH THE SEED: THE CARDS: each row of YtmkdmedekgndkaaDoorRows.lean that lists a variable, with what it lists TIED to the program's text (the seventh form; the later family's looks); each row that meets fmt, with fmt's text TOLD by the authors' own Lean function (tested against real Go, not proved from fmt's source: count such statements apart). THE CARD IS WHAT COUNTS. Prove the row's statement (the work); the ties are given (YtmkdmedekgndkaaDoorTie.lean); close each card by the builder's one call (the guide's Derived/Test/ToyasCard.lean, 'card_holds'). Laid BY PROGRAM, IN A SANDBOX (cutbox-door.mjs). By AI agents, Wed Nov 11 2026. No macro, syntax, notation, axiom, sorry.
-/
import Derived.Test.YtmkdmedekgndkaaDoorRows
import GoSem.ClaimSeven
namespace Go.Proofs.YtmkdmedekgndkaaDoor
namespace Rows

/-- THE TIED CARD OF 'laws.FnExactDotText'. -/
def fnExactDotTextCard : Claim7 := { stood := { row := fnExactDotTextRow, standIns := [], harness := (true, "a5be476aa245bc600a51870bebec1ce9c4eb706caf83ce5d2c6c933d66d21e60"), looks := false }, kinds := [], alts := [], laidByText := true, laidKinds := [.data, .data, .data], laidTests := true, laidLooks := .later }
def FnExactDotTextCardSaid : Prop := Claim7.holds Tryd.pinned (.plain (OpenSpec.ofChange fnExactDotTextSpec)) fnExactDotTextCard

/-- THE TIED CARD OF 'laws.FnExactVvText'. -/
def fnExactVvTextCard : Claim7 := { stood := { row := fnExactVvTextRow, standIns := [], harness := (true, "a5be476aa245bc600a51870bebec1ce9c4eb706caf83ce5d2c6c933d66d21e60"), looks := false }, kinds := [], alts := [], laidByText := true, laidKinds := [.data, .data, .data], laidTests := true, laidLooks := .later }
def FnExactVvTextCardSaid : Prop := Claim7.holds Tryd.pinned (.plain (OpenSpec.ofChange fnExactVvTextSpec)) fnExactVvTextCard

/-- THE TIED CARD OF 'laws.FnExactObjText'. -/
def fnExactObjTextCard : Claim7 := { stood := { row := fnExactObjTextRow, standIns := [], harness := (true, "a5be476aa245bc600a51870bebec1ce9c4eb706caf83ce5d2c6c933d66d21e60"), looks := false }, kinds := [], alts := [], laidByText := true, laidKinds := [.data, .data, .data], laidTests := true, laidLooks := .later }
def FnExactObjTextCardSaid : Prop := Claim7.holds Tryd.pinned (.plain (OpenSpec.ofChange fnExactObjTextSpec)) fnExactObjTextCard

/-- THE SECOND FORM's CARD OF 'laws.FnExactDotText'. -/
def fnExactDotTextUptoCard : Claim7 := { stood := { row := fnExactDotTextUptoRow, standIns := [], harness := (true, "a5be476aa245bc600a51870bebec1ce9c4eb706caf83ce5d2c6c933d66d21e60"), looks := false }, kinds := [], alts := [], laidByText := true, laidKinds := [.data, .data, .data], laidTests := true, laidLooks := .later }
def FnExactDotTextUptoCardSaid : Prop := Claim7.holds Tryd.pinned (.plain (OpenSpec.upto fnExactDotTextSpec)) fnExactDotTextUptoCard

/-- THE SECOND FORM's CARD OF 'laws.FnExactVvText'. -/
def fnExactVvTextUptoCard : Claim7 := { stood := { row := fnExactVvTextUptoRow, standIns := [], harness := (true, "a5be476aa245bc600a51870bebec1ce9c4eb706caf83ce5d2c6c933d66d21e60"), looks := false }, kinds := [], alts := [], laidByText := true, laidKinds := [.data, .data, .data], laidTests := true, laidLooks := .later }
def FnExactVvTextUptoCardSaid : Prop := Claim7.holds Tryd.pinned (.plain (OpenSpec.upto fnExactVvTextSpec)) fnExactVvTextUptoCard

/-- THE SECOND FORM's CARD OF 'laws.FnExactObjText'. -/
def fnExactObjTextUptoCard : Claim7 := { stood := { row := fnExactObjTextUptoRow, standIns := [], harness := (true, "a5be476aa245bc600a51870bebec1ce9c4eb706caf83ce5d2c6c933d66d21e60"), looks := false }, kinds := [], alts := [], laidByText := true, laidKinds := [.data, .data, .data], laidTests := true, laidLooks := .later }
def FnExactObjTextUptoCardSaid : Prop := Claim7.holds Tryd.pinned (.plain (OpenSpec.upto fnExactObjTextSpec)) fnExactObjTextUptoCard
end Rows
end Go.Proofs.YtmkdmedekgndkaaDoor

/-
  DERIVED. GIVEN WITH THE SEED: THE CARDS: each row of YthpejifdjbjhhaaDoorRows.lean that lists a variable, with what it lists TIED to the program's text (the seventh form; the later family's looks); each row that meets fmt, with fmt's text TOLD by the authors' own Lean function (tested against real Go, not proved from fmt's source: count such statements apart). THE CARD IS WHAT COUNTS. Prove the row's statement (the work); the ties are given (YthpejifdjbjhhaaDoorTie.lean); close each card by the builder's one call (the guide's Derived/Test/ToyasCard.lean, 'card_holds'). Laid BY PROGRAM, IN A SANDBOX (cutbox-door.mjs). By AI agents, Wed Nov 11 2026. No macro, syntax, notation, axiom, sorry.
-/
import Derived.Test.YthpejifdjbjhhaaDoorRows
import GoSem.ClaimSeven
namespace Go.Proofs.YthpejifdjbjhhaaDoor
namespace Rows

/-- THE TIED CARD OF 'laws.FnExactObjText'. -/
def fnExactObjTextCard : Claim7 := { stood := { row := fnExactObjTextRow, standIns := [], harness := (true, "c1bde796b9f2bb4d9f8b27cb9099d0e7eb8a01677242629ed09daface4be6f06"), looks := false }, kinds := [], alts := [], laidByText := true, laidKinds := [.data, .data, .data], laidTests := true, laidLooks := .later }
def FnExactObjTextCardSaid : Prop := Claim7.holds Tryd.pinned (.plain (OpenSpec.ofChange fnExactObjTextSpec)) fnExactObjTextCard

/-- THE TIED CARD OF 'laws.FnTexts'. -/
def fnTextsCard : Claim7 := { stood := { row := fnTextsRow, standIns := [], harness := (true, "c1bde796b9f2bb4d9f8b27cb9099d0e7eb8a01677242629ed09daface4be6f06"), looks := false }, kinds := [], alts := [], laidByText := true, laidKinds := [.data, .data, .data], laidTests := true, laidLooks := .later }
def FnTextsCardSaid : Prop := Claim7.holds Tryd.pinned (.plain (OpenSpec.ofChange fnTextsSpec)) fnTextsCard

/-- THE SECOND FORM's CARD OF 'laws.FnExactObjText'. -/
def fnExactObjTextUptoCard : Claim7 := { stood := { row := fnExactObjTextUptoRow, standIns := [], harness := (true, "c1bde796b9f2bb4d9f8b27cb9099d0e7eb8a01677242629ed09daface4be6f06"), looks := false }, kinds := [], alts := [], laidByText := true, laidKinds := [.data, .data, .data], laidTests := true, laidLooks := .later }
def FnExactObjTextUptoCardSaid : Prop := Claim7.holds Tryd.pinned (.plain (OpenSpec.upto fnExactObjTextSpec)) fnExactObjTextUptoCard

/-- THE SECOND FORM's CARD OF 'laws.FnTexts'. -/
def fnTextsUptoCard : Claim7 := { stood := { row := fnTextsUptoRow, standIns := [], harness := (true, "c1bde796b9f2bb4d9f8b27cb9099d0e7eb8a01677242629ed09daface4be6f06"), looks := false }, kinds := [], alts := [], laidByText := true, laidKinds := [.data, .data, .data], laidTests := true, laidLooks := .later }
def FnTextsUptoCardSaid : Prop := Claim7.holds Tryd.pinned (.plain (OpenSpec.upto fnTextsSpec)) fnTextsUptoCard
end Rows
end Go.Proofs.YthpejifdjbjhhaaDoor

/-
  DERIVED. GIVEN WITH THE SEED: THE CARDS: each row of YtkdbcmkmcjaenaaGreatDoorRows.lean that lists a variable, with what it lists TIED to the program's text (the seventh form; the later family's looks); each row that meets fmt, with fmt's text TOLD by the authors' own Lean function (tested against real Go, not proved from fmt's source: count such statements apart). THE CARD IS WHAT COUNTS. Prove the row's statement (the work); the ties are given (YtkdbcmkmcjaenaaGreatDoorTie.lean); close each card by the builder's one call (the guide's Derived/Test/ToyasCard.lean, 'card_holds'). Laid BY PROGRAM, IN A SANDBOX (cutbox-door.mjs). By AI agents, Wed Nov 11 2026. No macro, syntax, notation, axiom, sorry.
-/
import Derived.Test.YtkdbcmkmcjaenaaGreatDoorRows
import GoSem.ClaimSeven
namespace Go.Proofs.YtkdbcmkmcjaenaaGreatDoor
namespace Rows

/-- THE TIED CARD OF 'laws.FnModel'. -/
def fnModelCard : Claim7 := { stood := { row := fnModelRow, standIns := [], harness := (true, "ffaae9c37071d73b9234ab5c720d0d1d20a3f69db9c825b4fcfe5b072af9dc07"), looks := false }, kinds := [], alts := [], laidByText := true, laidKinds := [.data, .data, .data], laidTests := true, laidLooks := .later }
def FnModelCardSaid : Prop := Claim7.holds Tryz.pinned (.plain (OpenSpec.ofChange fnModelSpec)) fnModelCard

/-- THE SECOND FORM's CARD OF 'laws.FnModel'. -/
def fnModelUptoCard : Claim7 := { stood := { row := fnModelUptoRow, standIns := [], harness := (true, "ffaae9c37071d73b9234ab5c720d0d1d20a3f69db9c825b4fcfe5b072af9dc07"), looks := false }, kinds := [], alts := [], laidByText := true, laidKinds := [.data, .data, .data], laidTests := true, laidLooks := .later }
def FnModelUptoCardSaid : Prop := Claim7.holds Tryz.pinned (.plain (OpenSpec.upto fnModelSpec)) fnModelUptoCard
end Rows
end Go.Proofs.YtkdbcmkmcjaenaaGreatDoor

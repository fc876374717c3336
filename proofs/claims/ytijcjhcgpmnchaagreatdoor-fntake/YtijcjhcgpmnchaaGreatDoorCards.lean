/-
  DERIVED. GIVEN WITH THE SEED: THE CARDS: each row of YtijcjhcgpmnchaaGreatDoorRows.lean that lists a variable, with what it lists TIED to the program's text (the seventh form; the later family's looks); each row that meets fmt, with fmt's text TOLD by the authors' own Lean function (tested against real Go, not proved from fmt's source: count such statements apart). THE CARD IS WHAT COUNTS. Prove the row's statement (the work); the ties are given (YtijcjhcgpmnchaaGreatDoorTie.lean); close each card by the builder's one call (the guide's Derived/Test/ToyasCard.lean, 'card_holds'). Laid BY PROGRAM, IN A SANDBOX (cutbox-door.mjs). By AI agents, Wed Nov 11 2026. No macro, syntax, notation, axiom, sorry.
-/
import Derived.Test.YtijcjhcgpmnchaaGreatDoorRows
import GoSem.ClaimSeven
namespace Go.Proofs.YtijcjhcgpmnchaaGreatDoor
namespace Rows

/-- THE TIED CARD OF 'laws.FnNode'. -/
def fnNodeCard : Claim7 := { stood := { row := fnNodeRow, standIns := [], harness := (true, "5c7d927bb07accfa82fd9896c8dd1f1fa72a7cd178a516842ed8dd0e428cf428"), looks := false }, kinds := [], alts := [], laidByText := true, laidKinds := [.data, .data, .data, .data, .pinned], laidTests := true, laidLooks := .later }
def FnNodeCardSaid : Prop := Claim7.holds Tryz.pinned (.plain (OpenSpec.ofChange fnNodeSpec)) fnNodeCard

/-- THE TIED CARD OF 'laws.FnReplay'. -/
def fnReplayCard : Claim7 := { stood := { row := fnReplayRow, standIns := [], harness := (true, "5c7d927bb07accfa82fd9896c8dd1f1fa72a7cd178a516842ed8dd0e428cf428"), looks := false }, kinds := [], alts := [], laidByText := true, laidKinds := [.data, .data, .data, .data, .pinned], laidTests := true, laidLooks := .later }
def FnReplayCardSaid : Prop := Claim7.holds Tryz.pinned (.plain (OpenSpec.ofChange fnReplaySpec)) fnReplayCard

/-- THE TIED CARD OF 'laws.FnTake'. -/
def fnTakeCard : Claim7 := { stood := { row := fnTakeRow, standIns := [], harness := (true, "5c7d927bb07accfa82fd9896c8dd1f1fa72a7cd178a516842ed8dd0e428cf428"), looks := false }, kinds := [], alts := [], laidByText := true, laidKinds := [.data, .data, .data, .data, .pinned], laidTests := true, laidLooks := .later }
def FnTakeCardSaid : Prop := Claim7.holds Tryz.pinned (.plain (OpenSpec.ofChange fnTakeSpec)) fnTakeCard

/-- THE TIED CARD OF 'laws.FnDigest'. -/
def fnDigestCard : Claim7 := { stood := { row := fnDigestRow, standIns := [], harness := (true, "5c7d927bb07accfa82fd9896c8dd1f1fa72a7cd178a516842ed8dd0e428cf428"), looks := false }, kinds := [], alts := [], laidByText := true, laidKinds := [.data, .data, .data, .data, .pinned], laidTests := true, laidLooks := .later }
def FnDigestCardSaid : Prop := Claim7.holds Tryz.pinned (.plain (OpenSpec.ofChange fnDigestSpec)) fnDigestCard

/-- THE SECOND FORM's CARD OF 'laws.FnNode'. -/
def fnNodeUptoCard : Claim7 := { stood := { row := fnNodeUptoRow, standIns := [], harness := (true, "5c7d927bb07accfa82fd9896c8dd1f1fa72a7cd178a516842ed8dd0e428cf428"), looks := false }, kinds := [], alts := [], laidByText := true, laidKinds := [.data, .data, .data, .data, .pinned], laidTests := true, laidLooks := .later }
def FnNodeUptoCardSaid : Prop := Claim7.holds Tryz.pinned (.plain (OpenSpec.upto fnNodeSpec)) fnNodeUptoCard

/-- THE SECOND FORM's CARD OF 'laws.FnReplay'. -/
def fnReplayUptoCard : Claim7 := { stood := { row := fnReplayUptoRow, standIns := [], harness := (true, "5c7d927bb07accfa82fd9896c8dd1f1fa72a7cd178a516842ed8dd0e428cf428"), looks := false }, kinds := [], alts := [], laidByText := true, laidKinds := [.data, .data, .data, .data, .pinned], laidTests := true, laidLooks := .later }
def FnReplayUptoCardSaid : Prop := Claim7.holds Tryz.pinned (.plain (OpenSpec.upto fnReplaySpec)) fnReplayUptoCard

/-- THE SECOND FORM's CARD OF 'laws.FnTake'. -/
def fnTakeUptoCard : Claim7 := { stood := { row := fnTakeUptoRow, standIns := [], harness := (true, "5c7d927bb07accfa82fd9896c8dd1f1fa72a7cd178a516842ed8dd0e428cf428"), looks := false }, kinds := [], alts := [], laidByText := true, laidKinds := [.data, .data, .data, .data, .pinned], laidTests := true, laidLooks := .later }
def FnTakeUptoCardSaid : Prop := Claim7.holds Tryz.pinned (.plain (OpenSpec.upto fnTakeSpec)) fnTakeUptoCard

/-- THE SECOND FORM's CARD OF 'laws.FnDigest'. -/
def fnDigestUptoCard : Claim7 := { stood := { row := fnDigestUptoRow, standIns := [], harness := (true, "5c7d927bb07accfa82fd9896c8dd1f1fa72a7cd178a516842ed8dd0e428cf428"), looks := false }, kinds := [], alts := [], laidByText := true, laidKinds := [.data, .data, .data, .data, .pinned], laidTests := true, laidLooks := .later }
def FnDigestUptoCardSaid : Prop := Claim7.holds Tryz.pinned (.plain (OpenSpec.upto fnDigestSpec)) fnDigestUptoCard
end Rows
end Go.Proofs.YtijcjhcgpmnchaaGreatDoor

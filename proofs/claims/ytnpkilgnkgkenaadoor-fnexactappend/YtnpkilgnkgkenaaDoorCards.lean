/-
  DERIVED. GIVEN WITH THE SEED: THE CARDS: each row of YtnpkilgnkgkenaaDoorRows.lean that lists a variable, with what it lists TIED to the program's text (the seventh form; the later family's looks); each row that meets fmt, with fmt's text TOLD by the authors' own Lean function (tested against real Go, not proved from fmt's source: count such statements apart). THE CARD IS WHAT COUNTS. Prove the row's statement (the work); the ties are given (YtnpkilgnkgkenaaDoorTie.lean); close each card by the builder's one call (the guide's Derived/Test/ToyasCard.lean, 'card_holds'). Laid BY PROGRAM, IN A SANDBOX (cutbox-door.mjs). By AI agents, Wed Nov 11 2026. No macro, syntax, notation, axiom, sorry.
-/
import Derived.Test.YtnpkilgnkgkenaaDoorRows
import GoSem.ClaimSeven
namespace Go.Proofs.YtnpkilgnkgkenaaDoor
namespace Rows

/-- THE TIED CARD OF 'laws.FnExactSealLine'. -/
def fnExactSealLineCard : Claim7 := { stood := { row := fnExactSealLineRow, standIns := [], harness := (true, "b7939ea2d3f243d8d0fceaf12c40175a7888ca406912f23599e3038b856dffc5"), looks := false }, kinds := [], alts := [], laidByText := true, laidKinds := [.data, .data, .data], laidTests := true, laidLooks := .later }
def FnExactSealLineCardSaid : Prop := Claim7.holds Tryd.pinned (.plain (OpenSpec.ofChange fnExactSealLineSpec)) fnExactSealLineCard

/-- THE TIED CARD OF 'laws.FnExactOpenLine'. -/
def fnExactOpenLineCard : Claim7 := { stood := { row := fnExactOpenLineRow, standIns := [], harness := (true, "b7939ea2d3f243d8d0fceaf12c40175a7888ca406912f23599e3038b856dffc5"), looks := false }, kinds := [], alts := [], laidByText := true, laidKinds := [.data, .data, .data], laidTests := true, laidLooks := .later }
def FnExactOpenLineCardSaid : Prop := Claim7.holds Tryd.pinned (.plain (OpenSpec.ofChange fnExactOpenLineSpec)) fnExactOpenLineCard

/-- THE TIED CARD OF 'laws.FnExactAppend'. -/
def fnExactAppendCard : Claim7 := { stood := { row := fnExactAppendRow, standIns := [], harness := (true, "b7939ea2d3f243d8d0fceaf12c40175a7888ca406912f23599e3038b856dffc5"), looks := false }, kinds := [], alts := [], laidByText := true, laidKinds := [.data, .data, .data], laidTests := true, laidLooks := .later }
def FnExactAppendCardSaid : Prop := Claim7.holds Tryd.pinned (.plain (OpenSpec.ofChange fnExactAppendSpec)) fnExactAppendCard

/-- THE TIED CARD OF 'laws.FnExactRecover'. -/
def fnExactRecoverCard : Claim7 := { stood := { row := fnExactRecoverRow, standIns := [], harness := (true, "b7939ea2d3f243d8d0fceaf12c40175a7888ca406912f23599e3038b856dffc5"), looks := false }, kinds := [], alts := [], laidByText := true, laidKinds := [.data, .data, .data], laidTests := true, laidLooks := .later }
def FnExactRecoverCardSaid : Prop := Claim7.holds Tryd.pinned (.plain (OpenSpec.ofChange fnExactRecoverSpec)) fnExactRecoverCard

/-- THE SECOND FORM's CARD OF 'laws.FnExactSealLine'. -/
def fnExactSealLineUptoCard : Claim7 := { stood := { row := fnExactSealLineUptoRow, standIns := [], harness := (true, "b7939ea2d3f243d8d0fceaf12c40175a7888ca406912f23599e3038b856dffc5"), looks := false }, kinds := [], alts := [], laidByText := true, laidKinds := [.data, .data, .data], laidTests := true, laidLooks := .later }
def FnExactSealLineUptoCardSaid : Prop := Claim7.holds Tryd.pinned (.plain (OpenSpec.upto fnExactSealLineSpec)) fnExactSealLineUptoCard

/-- THE SECOND FORM's CARD OF 'laws.FnExactOpenLine'. -/
def fnExactOpenLineUptoCard : Claim7 := { stood := { row := fnExactOpenLineUptoRow, standIns := [], harness := (true, "b7939ea2d3f243d8d0fceaf12c40175a7888ca406912f23599e3038b856dffc5"), looks := false }, kinds := [], alts := [], laidByText := true, laidKinds := [.data, .data, .data], laidTests := true, laidLooks := .later }
def FnExactOpenLineUptoCardSaid : Prop := Claim7.holds Tryd.pinned (.plain (OpenSpec.upto fnExactOpenLineSpec)) fnExactOpenLineUptoCard

/-- THE SECOND FORM's CARD OF 'laws.FnExactAppend'. -/
def fnExactAppendUptoCard : Claim7 := { stood := { row := fnExactAppendUptoRow, standIns := [], harness := (true, "b7939ea2d3f243d8d0fceaf12c40175a7888ca406912f23599e3038b856dffc5"), looks := false }, kinds := [], alts := [], laidByText := true, laidKinds := [.data, .data, .data], laidTests := true, laidLooks := .later }
def FnExactAppendUptoCardSaid : Prop := Claim7.holds Tryd.pinned (.plain (OpenSpec.upto fnExactAppendSpec)) fnExactAppendUptoCard

/-- THE SECOND FORM's CARD OF 'laws.FnExactRecover'. -/
def fnExactRecoverUptoCard : Claim7 := { stood := { row := fnExactRecoverUptoRow, standIns := [], harness := (true, "b7939ea2d3f243d8d0fceaf12c40175a7888ca406912f23599e3038b856dffc5"), looks := false }, kinds := [], alts := [], laidByText := true, laidKinds := [.data, .data, .data], laidTests := true, laidLooks := .later }
def FnExactRecoverUptoCardSaid : Prop := Claim7.holds Tryd.pinned (.plain (OpenSpec.upto fnExactRecoverSpec)) fnExactRecoverUptoCard
end Rows
end Go.Proofs.YtnpkilgnkgkenaaDoor

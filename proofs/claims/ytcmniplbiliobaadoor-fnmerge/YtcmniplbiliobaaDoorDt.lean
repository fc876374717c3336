/- DotText of both sides, and the law. -/
import Derived.Test.YtcmniplbiliobaaDoorRows
import Derived.WalkKit
import Derived.WalkSpells
import Derived.WalkLawsBesides
import Derived.Deep.QuietTactic
import Derived.BigQuiet
import Derived.Deep.RegionHeld3
import Derived.Test.YtcmniplbiliobaaDoorDn
namespace Go.Proofs.YtcmniplbiliobaaDoor
open Go.RowKit
set_option linter.unusedSimpArgs false
set_option linter.unusedVariables false
end Go.Proofs.YtcmniplbiliobaaDoor

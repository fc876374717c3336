/- The law of OpenLine. -/
import Derived.Test.YthblnifapkfbcaaDoorRows
import Derived.WalkKit
import Derived.WalkSpells
import Derived.WalkLawsBesides
import Derived.Deep.QuietTactic
import Derived.BigQuiet
import Derived.Deep.RegionHeld3
import Derived.Test.YthblnifapkfbcaaDoorOi
namespace Go.Proofs.YthblnifapkfbcaaDoor
open Go.RowKit
set_option linter.unusedSimpArgs false
set_option linter.unusedVariables false

/-- What OpenLine tells. -/
def olS (s : ByteArray) : ByteArray := if s.size ≤ 65536 then (openO s).getD ⟨#[]⟩ else ⟨#[]⟩
def olC (s : ByteArray) : Int := if s.size ≤ 65536 then (if (openO s).isSome then 0 else 14) else 2

end Go.Proofs.YthblnifapkfbcaaDoor

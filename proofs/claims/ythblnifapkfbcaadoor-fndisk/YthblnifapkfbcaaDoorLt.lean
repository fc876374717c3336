/- The law of torn lines. -/
import Derived.Test.YthblnifapkfbcaaDoorRows
import Derived.WalkKit
import Derived.WalkSpells
import Derived.WalkLawsBesides
import Derived.Deep.QuietTactic
import Derived.BigQuiet
import Derived.Deep.RegionHeld3
import Derived.Test.YthblnifapkfbcaaDoorDx
import Derived.Test.YthblnifapkfbcaaDoorTn
import Derived.Test.YthblnifapkfbcaaDoorOl
import Derived.Test.YthblnifapkfbcaaDoorRe
import Derived.Test.YthblnifapkfbcaaDoorCd
import Derived.Test.YthblnifapkfbcaaDoorAi
import Derived.LoopN
namespace Go.Proofs.YthblnifapkfbcaaDoor
open Go.RowKit
set_option linter.unusedSimpArgs false
set_option linter.unusedVariables false

/-- A slice of bytes that came in. -/
def BRow (w : World) (v : Value) : Prop := ∃ ao len cap zs, v = .slice ao len cap ∧ Gen.IsRow .u8 w ao len cap zs
end Go.Proofs.YthblnifapkfbcaaDoor

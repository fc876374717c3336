/- SameObj of the specification tells whether all is alike. -/
import Derived.Test.YtjjgodnbfflepaaRows
import Derived.WalkKit
import Derived.WalkSpells
import Derived.WalkLawsBesides
import Derived.Deep.QuietTactic
import Derived.BigQuiet
import Derived.Deep.RegionHeld3
import Derived.LoopN
import Derived.OwnWalk
import Derived.Laws.StructEq
import Derived.Test.YtjjgodnbfflepaaSb
import Derived.Test.YtjjgodnbfflepaaSc
namespace Go.Proofs.Ytjjgodnbfflepaa
open Go.RowKit
set_option linter.unusedSimpArgs false
set_option linter.unusedVariables false

def Same (l l2 : List Sib) (a b c x y z : Int) : Prop := (a == x && (b == y && c == z)) = true ∧ l.length = l2.length ∧ ∀ i (h : i < l.length) (h2 : i < l2.length), sibB l[i] l2[i] = true

theorem bool_no {r : Bool} {P : Prop} (h : Hid (r = true ↔ P)) (hn : ¬ P) : r = false := by
  cases r
  · rfl
  · exact (hn (h.out.1 rfl)).elim

theorem bool_yes {r : Bool} {P : Prop} (h : Hid (r = true ↔ P)) (hp : P) : r = true := h.out.2 hp

end Go.Proofs.Ytjjgodnbfflepaa

/- The law FnAck: an event is acknowledged once, in its order, and by the owner of the newest epoch alone. -/
import Derived.Test.YtklajcdlacemaaaRows
import Derived.WalkKit
import Derived.WalkSpells
import Derived.WalkLawsBesides
import Derived.Deep.QuietTactic
import Derived.BigQuiet
import Derived.Deep.RegionHeld3
import Derived.Test.YtklajcdlacemaaaBx
import Derived.Test.YtklajcdlacemaaaBy
import Derived.Test.YtklajcdlacemaaaBz
import Derived.LoopN
import Derived.Deep.Cut
namespace Go.Proofs.Ytklajcdlacemaaa
open Go.RowKit
set_option linter.unusedSimpArgs false
set_option linter.unusedVariables false

set_option maxRecDepth 100000 in
set_option maxHeartbeats 1000000 in
theorem law_fnack (w : World) (ao : Option Addr) (len cap : Nat) (zs : List Int) (hr0 : Gen.IsRow .u8 w ao len cap zs) (bo : Option Addr) (ln cp : Nat) (ys : List Int) (hs0 : Gen.IsRow .u8 w bo ln cp ys) :
    Calls Try.prog 3 #[.slice ao len cap, .slice bo ln cp] w fun e w' => e = .returned (.bool true) ∧ Below w.heap.size w w' := by
  by_cases hl : 1048576 < len
  · have hl' : (1048576 : Int) < (len : Int) := by omega
    clear hr0 hs0
    go_enter Try.func3, Try.ntmps3
    go_wp2
    go_ret
    exact ⟨rfl, Below.refl _ _⟩
  have hl' : ¬ (1048576 : Int) < (len : Int) := by omega
  by_cases hk : 1048576 < ln
  · have hk' : (1048576 : Int) < (ln : Int) := by omega
    clear hr0 hs0
    go_enter Try.func3, Try.ntmps3
    go_wp2
    go_ret
    exact ⟨rfl, Below.refl _ _⟩
  have hk' : ¬ (1048576 : Int) < (ln : Int) := by omega
  obtain ⟨r0, h0, A0⟩ := at3 bo ln cp ys 0 w (by omega) (by omega) (by omega) hs0
  obtain ⟨r1, h1, A1⟩ := at3 bo ln cp ys 1 w (by omega) (by omega) (by omega) hs0
  have h3 : r0 = 0 ∨ r0 = 1 ∨ r0 = 2 := by omega
  rcases h3 with rfl | rfl | rfl
  · exact law_fnack0 w ao len cap zs hr0 bo ln cp hl' hk' r1 h1 A0 A1
  · exact law_fnack1 w ao len cap zs hr0 bo ln cp hl' hk' r1 h1 A0 A1
  · exact law_fnack2 w ao len cap zs hr0 bo ln cp hl' hk' r1 h1 A0 A1
end Go.Proofs.Ytklajcdlacemaaa

/- The law of ModelObj, over the program's side. -/
import Derived.Test.YtkdbcmkmcjaenaaGreatDoorRows
import Derived.WalkKit
import Derived.WalkSpells
import Derived.WalkLawsBesides
import Derived.Deep.QuietTactic
import Derived.BigQuiet
import Derived.Deep.RegionHeld3
import Derived.Test.YtkdbcmkmcjaenaaGreatDoorOc
import Derived.Test.YtkdbcmkmcjaenaaGreatDoorMr
import Derived.LoopN
import Derived.OwnWalk
import Derived.Laws.StructEq
namespace Go.Proofs.YtkdbcmkmcjaenaaGreatDoor
open Go.RowKit
set_option linter.unusedSimpArgs false
set_option linter.unusedVariables false

theorem moP_len {l : List Ev} {key : ByteArray} {ss : List Sb} {a b c d : Int} (h : moP l key ss a b c d) : ss.length ≤ 100 := by
  rcases h with ⟨_, ⟨rfl, _⟩, _⟩ | ⟨_, _, ⟨rfl, _⟩, _⟩ | ⟨_, _, _, ⟨rfl, _⟩, _⟩ | ⟨_, he, _, h, _⟩
  · simp
  · simp
  · simp
  · exact Nat.le_trans h.1.2.2 he.1
/-- The contract of the program's ModelObj. -/
def ImplMo : Prop := ∀ (lo q : Nat) (po : Option Addr) (l : List Ev) (key : ByteArray) (w : World), (∀ x ∈ l, x.key.size < 1099511627776) → key.size < 1099511627776 → GRow lo w po (flatE l) → Calls Tryz.prog 9 #[.slice po l.length q, .string key] w (Tmo l key w)
end Go.Proofs.YtkdbcmkmcjaenaaGreatDoor

/- ReadDot, of the specification. -/
import Derived.Test.YtgnacdhceiapkaaDoorRows
import Derived.Test.YtgnacdhceiapkaaDoorRw
import Derived.WalkKit
import Derived.WalkSpells
import Derived.WalkLawsBesides
import Derived.Deep.QuietTactic
import Derived.BigQuiet
import Derived.Deep.RegionHeld3
import Derived.Test.YtgnacdhceiapkaaDoorRw
import Derived.LoopN
namespace Go.Proofs.YtgnacdhceiapkaaDoor
open Go.RowKit
set_option linter.unusedSimpArgs false
set_option linter.unusedVariables false

theorem ba_bl (s : ByteArray) : (⟨(bl s).toArray⟩ : ByteArray) = s := by
  apply ByteArray.ext
  simp [bl]
theorem box_a {W : World} {b o : Nat} {v : Value} {ob : Obj} (h : W.cell? ⟨b, o, none⟩ = some v) (hb : b < W.heap.size) : (W.alloc ob).cell? ⟨b, o, none⟩ = some v := cell_next (bel_alloc _ _) h hb
theorem froz_a {W : World} {b o : Nat} {ob : Obj} (h : W.frozen? ⟨b, o, none⟩ = false) (hb : b < W.heap.size) : (W.alloc ob).frozen? ⟨b, o, none⟩ = false := frozen_next (bel_alloc _ _) h hb
def N3P (w : World) (e : Ending) (w' : World) : Prop := ∃ n : Int, e = .returned (.tuple #[.int .i64 n, .bool false]) ∧ Below w.heap.size w w'
set_option maxHeartbeats 400000 in
theorem l01in_yes (n a b : Int) (w : World) (h1 : a ≤ n) (h2 : n ≤ b) :
    Calls Tryd.prog 72 #[.int .i64 n, .int .i64 a, .int .i64 b] w fun e w' => e = .returned (.bool true) ∧ w' = w := by
  go_enter Tryd.func72, Tryd.ntmps72
  go_wp2
  go_ret
  exact ⟨rfl, rfl⟩
set_option maxHeartbeats 400000 in
theorem l01in_no (n a b : Int) (w : World) (h : n < a ∨ (a ≤ n ∧ b < n)) :
    Calls Tryd.prog 72 #[.int .i64 n, .int .i64 a, .int .i64 b] w fun e w' => e = .returned (.bool false) ∧ w' = w := by
  rcases h with h | ⟨h1, h⟩
  · have h1 : ¬ a ≤ n := by omega
    go_enter Tryd.func72, Tryd.ntmps72
    go_wp2
    go_ret
    exact ⟨rfl, rfl⟩
  · have h2 : ¬ n ≤ b := by omega
    go_enter Tryd.func72, Tryd.ntmps72
    go_wp2
    go_ret
    exact ⟨rfl, rfl⟩
/-- What l03ToDot tells. -/
def tdR : List UInt8 → Prop
  | [] => False
  | c :: r => (97 ≤ c.toNat ∧ c.toNat ≤ 99) ∧ (Num r ∧ r.length ≤ 18) ∧ dotB ((c.toNat : Int) - 97) (nv r) = true
def tdV : List UInt8 → Int × Int
  | [] => (0, 0)
  | c :: r => ((c.toNat : Int) - 97, nv r)
/-- What ReadDot answers. -/
def RdA (s : ByteArray) (p n code : Int) : Prop := (65536 < s.size → p = 0 ∧ n = 0 ∧ code = 2) ∧ (¬ 65536 < s.size → tdR (bl s) → p = (tdV (bl s)).1 ∧ n = (tdV (bl s)).2 ∧ code = 0) ∧ (¬ 65536 < s.size → ¬ tdR (bl s) → p = 0 ∧ n = 0 ∧ code = 3)
theorem rda_of (s : ByteArray) : ∃ p n code, Hid (RdA s p n code) := by
  by_cases h : 65536 < s.size
  · exact ⟨0, 0, 2, fun _ => ⟨rfl, rfl, rfl⟩, fun h' => (h' h).elim, fun h' => (h' h).elim⟩
  · by_cases h1 : tdR (bl s)
    · exact ⟨_, _, 0, fun h' => (h h').elim, fun _ _ => ⟨rfl, rfl, rfl⟩, fun _ h' => (h' h1).elim⟩
    · exact ⟨0, 0, 3, fun h' => (h h').elim, fun _ h' => (h1 h').elim, fun _ _ => ⟨rfl, rfl, rfl⟩⟩
end Go.Proofs.YtgnacdhceiapkaaDoor

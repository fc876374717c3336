/- The text of a vector, of the specification. -/
import Derived.Test.YtkdbcmkmcjaenaaGreatDoorRows
import Derived.WalkKit
import Derived.WalkSpells
import Derived.WalkLawsBesides
import Derived.Deep.QuietTactic
import Derived.BigQuiet
import Derived.Deep.RegionHeld3
import Derived.Test.YtkdbcmkmcjaenaaGreatDoorVt
namespace Go.Proofs.YtkdbcmkmcjaenaaGreatDoor
open Go.RowKit
set_option linter.unusedSimpArgs false
set_option linter.unusedVariables false

set_option maxHeartbeats 4000000 in
theorem spec_vtext (a b c : Int) (X Y Z : List UInt8) (w : World)
    (D0 : Hid (∀ W, Calls Tryz.prog 75 #[.int .i64 a] W fun e w' => e = .returned (.string ⟨X.toArray⟩) ∧ Below W.heap.size W w'))
    (D1 : Hid (∀ W, Calls Tryz.prog 75 #[.int .i64 b] W fun e w' => e = .returned (.string ⟨Y.toArray⟩) ∧ Below W.heap.size W w'))
    (D2 : Hid (∀ W, Calls Tryz.prog 75 #[.int .i64 c] W fun e w' => e = .returned (.string ⟨Z.toArray⟩) ∧ Below W.heap.size W w'))
    (hx : X.length ≤ 20000) (hy : Y.length ≤ 20000) (hz : Z.length ≤ 20000) :
    Calls Tryz.prog 76 #[(.agg #[.int .i64 a, .int .i64 b, .int .i64 c])] w fun e w' => e = .returned (.string ⟨(vj X Y Z).toArray⟩) ∧ Below w.heap.size w w' := by
  have n1 : ¬ 9223372036854775807 < 1 + Y.length := by omega
  have n2 : ¬ 9223372036854775807 < 1 + Z.length := by omega
  have n3 : ¬ 9223372036854775807 < X.length + (1 + Y.length) := by omega
  have n4 : ¬ 9223372036854775807 < X.length + (1 + Y.length) + (1 + Z.length) := by omega
  clear hx hy hz
  have B0 : Hid (Below w.heap.size w (w.alloc (.cells #[.int .i64 a, .int .i64 b, .int .i64 c] 32))) := bel_alloc _ _
  go_enter Tryz.func76, Tryz.ntmps76
  go_wp2_with fail
  refine (D0.out _).mono ?_
  rintro e w1 ⟨rfl, hb⟩
  have c1 := cell_next hb (b := w.heap.size) (o := 1) (v := .int .i64 b) (by go_simp) (by simp)
  have c2 := cell_next hb (b := w.heap.size) (o := 2) (v := .int .i64 c) (by go_simp) (by simp)
  replace B0 := bel_next B0 hb
  have hz : w.heap.size < w1.heap.size := Nat.lt_of_lt_of_le (by simp) hb.size
  clear hb D0
  go_wp2
  refine wp_loop_rounds 3 ?_
  rw [rounds_succ]
  go_wp2_with fail
  refine (D1.out _).mono ?_
  rintro e w2 ⟨rfl, hb⟩
  replace c2 := cell_next hb c2 hz
  replace B0 := bel_next B0 hb
  replace hz : w.heap.size < w2.heap.size := Nat.lt_of_lt_of_le hz hb.size
  clear hb D1
  go_wp2
  rw [rounds_succ]
  go_wp2_with fail
  refine (D2.out _).mono ?_
  rintro e w3 ⟨rfl, hb⟩
  replace B0 := bel_next B0 hb
  clear hb D2
  go_wp2
  rw [rounds_succ]
  go_wp2
  go_ret
  refine ⟨?_, B0.out⟩
  have e1 : ∀ s : List UInt8, (⟨#[46]⟩ : ByteArray) ++ ⟨s.toArray⟩ = ⟨(46 :: s).toArray⟩ := fun s => ba_app [46] s
  rw [e1, e1, ba_app, ba_app]
  rfl
end Go.Proofs.YtkdbcmkmcjaenaaGreatDoor

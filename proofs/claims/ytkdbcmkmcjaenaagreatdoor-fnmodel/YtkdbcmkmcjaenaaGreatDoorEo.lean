/- How what two know stands, as the specification reckons it. -/
import Derived.Test.YtkdbcmkmcjaenaaGreatDoorRows
import Derived.WalkKit
import Derived.WalkSpells
import Derived.WalkLawsBesides
import Derived.Deep.QuietTactic
import Derived.BigQuiet
import Derived.Deep.RegionHeld3
import Derived.Test.YtkdbcmkmcjaenaaGreatDoorEk
import Derived.LoopN
import Derived.RegionTactic
import Derived.BigRegion
namespace Go.Proofs.YtkdbcmkmcjaenaaGreatDoor
open Go.RowKit
set_option linter.unusedSimpArgs false
set_option linter.unusedVariables false

theorem tri (a x : Int) : a < x ∨ a = x ∨ x < a := by omega
def ordR (a b c x y z : Int) : Int := (if a < x ∨ b < y ∨ c < z then 1 else 0) + (if x < a ∨ y < b ∨ z < c then 2 else 0)

set_option maxHeartbeats 1000000 in
theorem l01order_lll (a b c x y z : Int) (w : World) (h0 : a < x) (h1 : b < y) (h2 : c < z) :
    Calls Tryz.prog 90 #[.agg #[.int .i64 a, .int .i64 b, .int .i64 c], .agg #[.int .i64 x, .int .i64 y, .int .i64 z]] w fun e w' => e = .returned (.int .i64 1) ∧ Below w.heap.size w w' := by
  have d0 : decide (a < x) = true := by simp; omega
  have d0' : decide (x < a) = false := by simp; omega
  have d1 : decide (b < y) = true := by simp; omega
  have d1' : decide (y < b) = false := by simp; omega
  have d2 : decide (c < z) = true := by simp; omega
  have d2' : decide (z < c) = false := by simp; omega
  go_enter Tryz.func90, Tryz.ntmps90
  go_wp2
  refine wp_loop_rounds 4 ?_
  rw [rounds_succ]; go_wp2; go_quiet (fail); go_wp2; go_quiet (fail); go_wp2
  rw [rounds_succ]; go_wp2; go_quiet (fail); go_wp2; go_quiet (fail); go_wp2
  rw [rounds_succ]; go_wp2; go_quiet (fail); go_wp2; go_quiet (fail); go_wp2
  rw [rounds_succ]; go_wp2
  go_ret
  refine ⟨rfl, ?_⟩
  repeat (first | exact Below.refl _ _ | refine Below.drew ?_ | refine below_drewN ?_ _ | refine Below.alloc ?_ (by first | (simp; done) | (simp; omega)) _ | refine Below.setCell ?_ (by first | (simp; done) | (simp; omega)) _)

set_option maxHeartbeats 1000000 in
theorem l01order_lle (a b c x y : Int) (w : World) (h0 : a < x) (h1 : b < y) :
    Calls Tryz.prog 90 #[.agg #[.int .i64 a, .int .i64 b, .int .i64 c], .agg #[.int .i64 x, .int .i64 y, .int .i64 c]] w fun e w' => e = .returned (.int .i64 1) ∧ Below w.heap.size w w' := by
  have d0 : decide (a < x) = true := by simp; omega
  have d0' : decide (x < a) = false := by simp; omega
  have d1 : decide (b < y) = true := by simp; omega
  have d1' : decide (y < b) = false := by simp; omega
  go_enter Tryz.func90, Tryz.ntmps90
  go_wp2
  refine wp_loop_rounds 4 ?_
  rw [rounds_succ]; go_wp2; go_quiet (fail); go_wp2; go_quiet (fail); go_wp2
  rw [rounds_succ]; go_wp2; go_quiet (fail); go_wp2; go_quiet (fail); go_wp2
  rw [rounds_succ]; go_wp2; go_quiet (fail); go_wp2; go_quiet (fail); go_wp2
  rw [rounds_succ]; go_wp2
  go_ret
  refine ⟨rfl, ?_⟩
  repeat (first | exact Below.refl _ _ | refine Below.drew ?_ | refine below_drewN ?_ _ | refine Below.alloc ?_ (by first | (simp; done) | (simp; omega)) _ | refine Below.setCell ?_ (by first | (simp; done) | (simp; omega)) _)

set_option maxHeartbeats 1000000 in
theorem l01order_llg (a b c x y z : Int) (w : World) (h0 : a < x) (h1 : b < y) (h2 : z < c) :
    Calls Tryz.prog 90 #[.agg #[.int .i64 a, .int .i64 b, .int .i64 c], .agg #[.int .i64 x, .int .i64 y, .int .i64 z]] w fun e w' => e = .returned (.int .i64 3) ∧ Below w.heap.size w w' := by
  have d0 : decide (a < x) = true := by simp; omega
  have d0' : decide (x < a) = false := by simp; omega
  have d1 : decide (b < y) = true := by simp; omega
  have d1' : decide (y < b) = false := by simp; omega
  have d2 : decide (c < z) = false := by simp; omega
  have d2' : decide (z < c) = true := by simp; omega
  go_enter Tryz.func90, Tryz.ntmps90
  go_wp2
  refine wp_loop_rounds 4 ?_
  rw [rounds_succ]; go_wp2; go_quiet (fail); go_wp2; go_quiet (fail); go_wp2
  rw [rounds_succ]; go_wp2; go_quiet (fail); go_wp2; go_quiet (fail); go_wp2
  rw [rounds_succ]; go_wp2; go_quiet (fail); go_wp2; go_quiet (fail); go_wp2
  rw [rounds_succ]; go_wp2
  go_ret
  refine ⟨rfl, ?_⟩
  repeat (first | exact Below.refl _ _ | refine Below.drew ?_ | refine below_drewN ?_ _ | refine Below.alloc ?_ (by first | (simp; done) | (simp; omega)) _ | refine Below.setCell ?_ (by first | (simp; done) | (simp; omega)) _)

set_option maxHeartbeats 1000000 in
theorem l01order_lel (a b c x z : Int) (w : World) (h0 : a < x) (h2 : c < z) :
    Calls Tryz.prog 90 #[.agg #[.int .i64 a, .int .i64 b, .int .i64 c], .agg #[.int .i64 x, .int .i64 b, .int .i64 z]] w fun e w' => e = .returned (.int .i64 1) ∧ Below w.heap.size w w' := by
  have d0 : decide (a < x) = true := by simp; omega
  have d0' : decide (x < a) = false := by simp; omega
  have d2 : decide (c < z) = true := by simp; omega
  have d2' : decide (z < c) = false := by simp; omega
  go_enter Tryz.func90, Tryz.ntmps90
  go_wp2
  refine wp_loop_rounds 4 ?_
  rw [rounds_succ]; go_wp2; go_quiet (fail); go_wp2; go_quiet (fail); go_wp2
  rw [rounds_succ]; go_wp2; go_quiet (fail); go_wp2; go_quiet (fail); go_wp2
  rw [rounds_succ]; go_wp2; go_quiet (fail); go_wp2; go_quiet (fail); go_wp2
  rw [rounds_succ]; go_wp2
  go_ret
  refine ⟨rfl, ?_⟩
  repeat (first | exact Below.refl _ _ | refine Below.drew ?_ | refine below_drewN ?_ _ | refine Below.alloc ?_ (by first | (simp; done) | (simp; omega)) _ | refine Below.setCell ?_ (by first | (simp; done) | (simp; omega)) _)

set_option maxHeartbeats 1000000 in
theorem l01order_lee (a b c x : Int) (w : World) (h0 : a < x) :
    Calls Tryz.prog 90 #[.agg #[.int .i64 a, .int .i64 b, .int .i64 c], .agg #[.int .i64 x, .int .i64 b, .int .i64 c]] w fun e w' => e = .returned (.int .i64 1) ∧ Below w.heap.size w w' := by
  have d0 : decide (a < x) = true := by simp; omega
  have d0' : decide (x < a) = false := by simp; omega
  go_enter Tryz.func90, Tryz.ntmps90
  go_wp2
  refine wp_loop_rounds 4 ?_
  rw [rounds_succ]; go_wp2; go_quiet (fail); go_wp2; go_quiet (fail); go_wp2
  rw [rounds_succ]; go_wp2; go_quiet (fail); go_wp2; go_quiet (fail); go_wp2
  rw [rounds_succ]; go_wp2; go_quiet (fail); go_wp2; go_quiet (fail); go_wp2
  rw [rounds_succ]; go_wp2
  go_ret
  refine ⟨rfl, ?_⟩
  repeat (first | exact Below.refl _ _ | refine Below.drew ?_ | refine below_drewN ?_ _ | refine Below.alloc ?_ (by first | (simp; done) | (simp; omega)) _ | refine Below.setCell ?_ (by first | (simp; done) | (simp; omega)) _)

set_option maxHeartbeats 1000000 in
theorem l01order_leg (a b c x z : Int) (w : World) (h0 : a < x) (h2 : z < c) :
    Calls Tryz.prog 90 #[.agg #[.int .i64 a, .int .i64 b, .int .i64 c], .agg #[.int .i64 x, .int .i64 b, .int .i64 z]] w fun e w' => e = .returned (.int .i64 3) ∧ Below w.heap.size w w' := by
  have d0 : decide (a < x) = true := by simp; omega
  have d0' : decide (x < a) = false := by simp; omega
  have d2 : decide (c < z) = false := by simp; omega
  have d2' : decide (z < c) = true := by simp; omega
  go_enter Tryz.func90, Tryz.ntmps90
  go_wp2
  refine wp_loop_rounds 4 ?_
  rw [rounds_succ]; go_wp2; go_quiet (fail); go_wp2; go_quiet (fail); go_wp2
  rw [rounds_succ]; go_wp2; go_quiet (fail); go_wp2; go_quiet (fail); go_wp2
  rw [rounds_succ]; go_wp2; go_quiet (fail); go_wp2; go_quiet (fail); go_wp2
  rw [rounds_succ]; go_wp2
  go_ret
  refine ⟨rfl, ?_⟩
  repeat (first | exact Below.refl _ _ | refine Below.drew ?_ | refine below_drewN ?_ _ | refine Below.alloc ?_ (by first | (simp; done) | (simp; omega)) _ | refine Below.setCell ?_ (by first | (simp; done) | (simp; omega)) _)

set_option maxHeartbeats 1000000 in
theorem l01order_lgl (a b c x y z : Int) (w : World) (h0 : a < x) (h1 : y < b) (h2 : c < z) :
    Calls Tryz.prog 90 #[.agg #[.int .i64 a, .int .i64 b, .int .i64 c], .agg #[.int .i64 x, .int .i64 y, .int .i64 z]] w fun e w' => e = .returned (.int .i64 3) ∧ Below w.heap.size w w' := by
  have d0 : decide (a < x) = true := by simp; omega
  have d0' : decide (x < a) = false := by simp; omega
  have d1 : decide (b < y) = false := by simp; omega
  have d1' : decide (y < b) = true := by simp; omega
  have d2 : decide (c < z) = true := by simp; omega
  have d2' : decide (z < c) = false := by simp; omega
  go_enter Tryz.func90, Tryz.ntmps90
  go_wp2
  refine wp_loop_rounds 4 ?_
  rw [rounds_succ]; go_wp2; go_quiet (fail); go_wp2; go_quiet (fail); go_wp2
  rw [rounds_succ]; go_wp2; go_quiet (fail); go_wp2; go_quiet (fail); go_wp2
  rw [rounds_succ]; go_wp2; go_quiet (fail); go_wp2; go_quiet (fail); go_wp2
  rw [rounds_succ]; go_wp2
  go_ret
  refine ⟨rfl, ?_⟩
  repeat (first | exact Below.refl _ _ | refine Below.drew ?_ | refine below_drewN ?_ _ | refine Below.alloc ?_ (by first | (simp; done) | (simp; omega)) _ | refine Below.setCell ?_ (by first | (simp; done) | (simp; omega)) _)

set_option maxHeartbeats 1000000 in
theorem l01order_lge (a b c x y : Int) (w : World) (h0 : a < x) (h1 : y < b) :
    Calls Tryz.prog 90 #[.agg #[.int .i64 a, .int .i64 b, .int .i64 c], .agg #[.int .i64 x, .int .i64 y, .int .i64 c]] w fun e w' => e = .returned (.int .i64 3) ∧ Below w.heap.size w w' := by
  have d0 : decide (a < x) = true := by simp; omega
  have d0' : decide (x < a) = false := by simp; omega
  have d1 : decide (b < y) = false := by simp; omega
  have d1' : decide (y < b) = true := by simp; omega
  go_enter Tryz.func90, Tryz.ntmps90
  go_wp2
  refine wp_loop_rounds 4 ?_
  rw [rounds_succ]; go_wp2; go_quiet (fail); go_wp2; go_quiet (fail); go_wp2
  rw [rounds_succ]; go_wp2; go_quiet (fail); go_wp2; go_quiet (fail); go_wp2
  rw [rounds_succ]; go_wp2; go_quiet (fail); go_wp2; go_quiet (fail); go_wp2
  rw [rounds_succ]; go_wp2
  go_ret
  refine ⟨rfl, ?_⟩
  repeat (first | exact Below.refl _ _ | refine Below.drew ?_ | refine below_drewN ?_ _ | refine Below.alloc ?_ (by first | (simp; done) | (simp; omega)) _ | refine Below.setCell ?_ (by first | (simp; done) | (simp; omega)) _)

set_option maxHeartbeats 1000000 in
theorem l01order_lgg (a b c x y z : Int) (w : World) (h0 : a < x) (h1 : y < b) (h2 : z < c) :
    Calls Tryz.prog 90 #[.agg #[.int .i64 a, .int .i64 b, .int .i64 c], .agg #[.int .i64 x, .int .i64 y, .int .i64 z]] w fun e w' => e = .returned (.int .i64 3) ∧ Below w.heap.size w w' := by
  have d0 : decide (a < x) = true := by simp; omega
  have d0' : decide (x < a) = false := by simp; omega
  have d1 : decide (b < y) = false := by simp; omega
  have d1' : decide (y < b) = true := by simp; omega
  have d2 : decide (c < z) = false := by simp; omega
  have d2' : decide (z < c) = true := by simp; omega
  go_enter Tryz.func90, Tryz.ntmps90
  go_wp2
  refine wp_loop_rounds 4 ?_
  rw [rounds_succ]; go_wp2; go_quiet (fail); go_wp2; go_quiet (fail); go_wp2
  rw [rounds_succ]; go_wp2; go_quiet (fail); go_wp2; go_quiet (fail); go_wp2
  rw [rounds_succ]; go_wp2; go_quiet (fail); go_wp2; go_quiet (fail); go_wp2
  rw [rounds_succ]; go_wp2
  go_ret
  refine ⟨rfl, ?_⟩
  repeat (first | exact Below.refl _ _ | refine Below.drew ?_ | refine below_drewN ?_ _ | refine Below.alloc ?_ (by first | (simp; done) | (simp; omega)) _ | refine Below.setCell ?_ (by first | (simp; done) | (simp; omega)) _)

set_option maxHeartbeats 1000000 in
theorem l01order_ell (a b c y z : Int) (w : World) (h1 : b < y) (h2 : c < z) :
    Calls Tryz.prog 90 #[.agg #[.int .i64 a, .int .i64 b, .int .i64 c], .agg #[.int .i64 a, .int .i64 y, .int .i64 z]] w fun e w' => e = .returned (.int .i64 1) ∧ Below w.heap.size w w' := by
  have d1 : decide (b < y) = true := by simp; omega
  have d1' : decide (y < b) = false := by simp; omega
  have d2 : decide (c < z) = true := by simp; omega
  have d2' : decide (z < c) = false := by simp; omega
  go_enter Tryz.func90, Tryz.ntmps90
  go_wp2
  refine wp_loop_rounds 4 ?_
  rw [rounds_succ]; go_wp2; go_quiet (fail); go_wp2; go_quiet (fail); go_wp2
  rw [rounds_succ]; go_wp2; go_quiet (fail); go_wp2; go_quiet (fail); go_wp2
  rw [rounds_succ]; go_wp2; go_quiet (fail); go_wp2; go_quiet (fail); go_wp2
  rw [rounds_succ]; go_wp2
  go_ret
  refine ⟨rfl, ?_⟩
  repeat (first | exact Below.refl _ _ | refine Below.drew ?_ | refine below_drewN ?_ _ | refine Below.alloc ?_ (by first | (simp; done) | (simp; omega)) _ | refine Below.setCell ?_ (by first | (simp; done) | (simp; omega)) _)

set_option maxHeartbeats 1000000 in
theorem l01order_ele (a b c y : Int) (w : World) (h1 : b < y) :
    Calls Tryz.prog 90 #[.agg #[.int .i64 a, .int .i64 b, .int .i64 c], .agg #[.int .i64 a, .int .i64 y, .int .i64 c]] w fun e w' => e = .returned (.int .i64 1) ∧ Below w.heap.size w w' := by
  have d1 : decide (b < y) = true := by simp; omega
  have d1' : decide (y < b) = false := by simp; omega
  go_enter Tryz.func90, Tryz.ntmps90
  go_wp2
  refine wp_loop_rounds 4 ?_
  rw [rounds_succ]; go_wp2; go_quiet (fail); go_wp2; go_quiet (fail); go_wp2
  rw [rounds_succ]; go_wp2; go_quiet (fail); go_wp2; go_quiet (fail); go_wp2
  rw [rounds_succ]; go_wp2; go_quiet (fail); go_wp2; go_quiet (fail); go_wp2
  rw [rounds_succ]; go_wp2
  go_ret
  refine ⟨rfl, ?_⟩
  repeat (first | exact Below.refl _ _ | refine Below.drew ?_ | refine below_drewN ?_ _ | refine Below.alloc ?_ (by first | (simp; done) | (simp; omega)) _ | refine Below.setCell ?_ (by first | (simp; done) | (simp; omega)) _)

set_option maxHeartbeats 1000000 in
theorem l01order_elg (a b c y z : Int) (w : World) (h1 : b < y) (h2 : z < c) :
    Calls Tryz.prog 90 #[.agg #[.int .i64 a, .int .i64 b, .int .i64 c], .agg #[.int .i64 a, .int .i64 y, .int .i64 z]] w fun e w' => e = .returned (.int .i64 3) ∧ Below w.heap.size w w' := by
  have d1 : decide (b < y) = true := by simp; omega
  have d1' : decide (y < b) = false := by simp; omega
  have d2 : decide (c < z) = false := by simp; omega
  have d2' : decide (z < c) = true := by simp; omega
  go_enter Tryz.func90, Tryz.ntmps90
  go_wp2
  refine wp_loop_rounds 4 ?_
  rw [rounds_succ]; go_wp2; go_quiet (fail); go_wp2; go_quiet (fail); go_wp2
  rw [rounds_succ]; go_wp2; go_quiet (fail); go_wp2; go_quiet (fail); go_wp2
  rw [rounds_succ]; go_wp2; go_quiet (fail); go_wp2; go_quiet (fail); go_wp2
  rw [rounds_succ]; go_wp2
  go_ret
  refine ⟨rfl, ?_⟩
  repeat (first | exact Below.refl _ _ | refine Below.drew ?_ | refine below_drewN ?_ _ | refine Below.alloc ?_ (by first | (simp; done) | (simp; omega)) _ | refine Below.setCell ?_ (by first | (simp; done) | (simp; omega)) _)

set_option maxHeartbeats 1000000 in
theorem l01order_eel (a b c z : Int) (w : World) (h2 : c < z) :
    Calls Tryz.prog 90 #[.agg #[.int .i64 a, .int .i64 b, .int .i64 c], .agg #[.int .i64 a, .int .i64 b, .int .i64 z]] w fun e w' => e = .returned (.int .i64 1) ∧ Below w.heap.size w w' := by
  have d2 : decide (c < z) = true := by simp; omega
  have d2' : decide (z < c) = false := by simp; omega
  go_enter Tryz.func90, Tryz.ntmps90
  go_wp2
  refine wp_loop_rounds 4 ?_
  rw [rounds_succ]; go_wp2; go_quiet (fail); go_wp2; go_quiet (fail); go_wp2
  rw [rounds_succ]; go_wp2; go_quiet (fail); go_wp2; go_quiet (fail); go_wp2
  rw [rounds_succ]; go_wp2; go_quiet (fail); go_wp2; go_quiet (fail); go_wp2
  rw [rounds_succ]; go_wp2
  go_ret
  refine ⟨rfl, ?_⟩
  repeat (first | exact Below.refl _ _ | refine Below.drew ?_ | refine below_drewN ?_ _ | refine Below.alloc ?_ (by first | (simp; done) | (simp; omega)) _ | refine Below.setCell ?_ (by first | (simp; done) | (simp; omega)) _)

set_option maxHeartbeats 1000000 in
theorem l01order_eee (a b c : Int) (w : World)  :
    Calls Tryz.prog 90 #[.agg #[.int .i64 a, .int .i64 b, .int .i64 c], .agg #[.int .i64 a, .int .i64 b, .int .i64 c]] w fun e w' => e = .returned (.int .i64 0) ∧ Below w.heap.size w w' := by
  go_enter Tryz.func90, Tryz.ntmps90
  go_wp2
  refine wp_loop_rounds 4 ?_
  rw [rounds_succ]; go_wp2; go_quiet (fail); go_wp2; go_quiet (fail); go_wp2
  rw [rounds_succ]; go_wp2; go_quiet (fail); go_wp2; go_quiet (fail); go_wp2
  rw [rounds_succ]; go_wp2; go_quiet (fail); go_wp2; go_quiet (fail); go_wp2
  rw [rounds_succ]; go_wp2
  go_ret
  refine ⟨rfl, ?_⟩
  repeat (first | exact Below.refl _ _ | refine Below.drew ?_ | refine below_drewN ?_ _ | refine Below.alloc ?_ (by first | (simp; done) | (simp; omega)) _ | refine Below.setCell ?_ (by first | (simp; done) | (simp; omega)) _)

set_option maxHeartbeats 1000000 in
theorem l01order_eeg (a b c z : Int) (w : World) (h2 : z < c) :
    Calls Tryz.prog 90 #[.agg #[.int .i64 a, .int .i64 b, .int .i64 c], .agg #[.int .i64 a, .int .i64 b, .int .i64 z]] w fun e w' => e = .returned (.int .i64 2) ∧ Below w.heap.size w w' := by
  have d2 : decide (c < z) = false := by simp; omega
  have d2' : decide (z < c) = true := by simp; omega
  go_enter Tryz.func90, Tryz.ntmps90
  go_wp2
  refine wp_loop_rounds 4 ?_
  rw [rounds_succ]; go_wp2; go_quiet (fail); go_wp2; go_quiet (fail); go_wp2
  rw [rounds_succ]; go_wp2; go_quiet (fail); go_wp2; go_quiet (fail); go_wp2
  rw [rounds_succ]; go_wp2; go_quiet (fail); go_wp2; go_quiet (fail); go_wp2
  rw [rounds_succ]; go_wp2
  go_ret
  refine ⟨rfl, ?_⟩
  repeat (first | exact Below.refl _ _ | refine Below.drew ?_ | refine below_drewN ?_ _ | refine Below.alloc ?_ (by first | (simp; done) | (simp; omega)) _ | refine Below.setCell ?_ (by first | (simp; done) | (simp; omega)) _)

set_option maxHeartbeats 1000000 in
theorem l01order_egl (a b c y z : Int) (w : World) (h1 : y < b) (h2 : c < z) :
    Calls Tryz.prog 90 #[.agg #[.int .i64 a, .int .i64 b, .int .i64 c], .agg #[.int .i64 a, .int .i64 y, .int .i64 z]] w fun e w' => e = .returned (.int .i64 3) ∧ Below w.heap.size w w' := by
  have d1 : decide (b < y) = false := by simp; omega
  have d1' : decide (y < b) = true := by simp; omega
  have d2 : decide (c < z) = true := by simp; omega
  have d2' : decide (z < c) = false := by simp; omega
  go_enter Tryz.func90, Tryz.ntmps90
  go_wp2
  refine wp_loop_rounds 4 ?_
  rw [rounds_succ]; go_wp2; go_quiet (fail); go_wp2; go_quiet (fail); go_wp2
  rw [rounds_succ]; go_wp2; go_quiet (fail); go_wp2; go_quiet (fail); go_wp2
  rw [rounds_succ]; go_wp2; go_quiet (fail); go_wp2; go_quiet (fail); go_wp2
  rw [rounds_succ]; go_wp2
  go_ret
  refine ⟨rfl, ?_⟩
  repeat (first | exact Below.refl _ _ | refine Below.drew ?_ | refine below_drewN ?_ _ | refine Below.alloc ?_ (by first | (simp; done) | (simp; omega)) _ | refine Below.setCell ?_ (by first | (simp; done) | (simp; omega)) _)

set_option maxHeartbeats 1000000 in
theorem l01order_ege (a b c y : Int) (w : World) (h1 : y < b) :
    Calls Tryz.prog 90 #[.agg #[.int .i64 a, .int .i64 b, .int .i64 c], .agg #[.int .i64 a, .int .i64 y, .int .i64 c]] w fun e w' => e = .returned (.int .i64 2) ∧ Below w.heap.size w w' := by
  have d1 : decide (b < y) = false := by simp; omega
  have d1' : decide (y < b) = true := by simp; omega
  go_enter Tryz.func90, Tryz.ntmps90
  go_wp2
  refine wp_loop_rounds 4 ?_
  rw [rounds_succ]; go_wp2; go_quiet (fail); go_wp2; go_quiet (fail); go_wp2
  rw [rounds_succ]; go_wp2; go_quiet (fail); go_wp2; go_quiet (fail); go_wp2
  rw [rounds_succ]; go_wp2; go_quiet (fail); go_wp2; go_quiet (fail); go_wp2
  rw [rounds_succ]; go_wp2
  go_ret
  refine ⟨rfl, ?_⟩
  repeat (first | exact Below.refl _ _ | refine Below.drew ?_ | refine below_drewN ?_ _ | refine Below.alloc ?_ (by first | (simp; done) | (simp; omega)) _ | refine Below.setCell ?_ (by first | (simp; done) | (simp; omega)) _)

set_option maxHeartbeats 1000000 in
theorem l01order_egg (a b c y z : Int) (w : World) (h1 : y < b) (h2 : z < c) :
    Calls Tryz.prog 90 #[.agg #[.int .i64 a, .int .i64 b, .int .i64 c], .agg #[.int .i64 a, .int .i64 y, .int .i64 z]] w fun e w' => e = .returned (.int .i64 2) ∧ Below w.heap.size w w' := by
  have d1 : decide (b < y) = false := by simp; omega
  have d1' : decide (y < b) = true := by simp; omega
  have d2 : decide (c < z) = false := by simp; omega
  have d2' : decide (z < c) = true := by simp; omega
  go_enter Tryz.func90, Tryz.ntmps90
  go_wp2
  refine wp_loop_rounds 4 ?_
  rw [rounds_succ]; go_wp2; go_quiet (fail); go_wp2; go_quiet (fail); go_wp2
  rw [rounds_succ]; go_wp2; go_quiet (fail); go_wp2; go_quiet (fail); go_wp2
  rw [rounds_succ]; go_wp2; go_quiet (fail); go_wp2; go_quiet (fail); go_wp2
  rw [rounds_succ]; go_wp2
  go_ret
  refine ⟨rfl, ?_⟩
  repeat (first | exact Below.refl _ _ | refine Below.drew ?_ | refine below_drewN ?_ _ | refine Below.alloc ?_ (by first | (simp; done) | (simp; omega)) _ | refine Below.setCell ?_ (by first | (simp; done) | (simp; omega)) _)

set_option maxHeartbeats 1000000 in
theorem l01order_gll (a b c x y z : Int) (w : World) (h0 : x < a) (h1 : b < y) (h2 : c < z) :
    Calls Tryz.prog 90 #[.agg #[.int .i64 a, .int .i64 b, .int .i64 c], .agg #[.int .i64 x, .int .i64 y, .int .i64 z]] w fun e w' => e = .returned (.int .i64 3) ∧ Below w.heap.size w w' := by
  have d0 : decide (a < x) = false := by simp; omega
  have d0' : decide (x < a) = true := by simp; omega
  have d1 : decide (b < y) = true := by simp; omega
  have d1' : decide (y < b) = false := by simp; omega
  have d2 : decide (c < z) = true := by simp; omega
  have d2' : decide (z < c) = false := by simp; omega
  go_enter Tryz.func90, Tryz.ntmps90
  go_wp2
  refine wp_loop_rounds 4 ?_
  rw [rounds_succ]; go_wp2; go_quiet (fail); go_wp2; go_quiet (fail); go_wp2
  rw [rounds_succ]; go_wp2; go_quiet (fail); go_wp2; go_quiet (fail); go_wp2
  rw [rounds_succ]; go_wp2; go_quiet (fail); go_wp2; go_quiet (fail); go_wp2
  rw [rounds_succ]; go_wp2
  go_ret
  refine ⟨rfl, ?_⟩
  repeat (first | exact Below.refl _ _ | refine Below.drew ?_ | refine below_drewN ?_ _ | refine Below.alloc ?_ (by first | (simp; done) | (simp; omega)) _ | refine Below.setCell ?_ (by first | (simp; done) | (simp; omega)) _)

set_option maxHeartbeats 1000000 in
theorem l01order_gle (a b c x y : Int) (w : World) (h0 : x < a) (h1 : b < y) :
    Calls Tryz.prog 90 #[.agg #[.int .i64 a, .int .i64 b, .int .i64 c], .agg #[.int .i64 x, .int .i64 y, .int .i64 c]] w fun e w' => e = .returned (.int .i64 3) ∧ Below w.heap.size w w' := by
  have d0 : decide (a < x) = false := by simp; omega
  have d0' : decide (x < a) = true := by simp; omega
  have d1 : decide (b < y) = true := by simp; omega
  have d1' : decide (y < b) = false := by simp; omega
  go_enter Tryz.func90, Tryz.ntmps90
  go_wp2
  refine wp_loop_rounds 4 ?_
  rw [rounds_succ]; go_wp2; go_quiet (fail); go_wp2; go_quiet (fail); go_wp2
  rw [rounds_succ]; go_wp2; go_quiet (fail); go_wp2; go_quiet (fail); go_wp2
  rw [rounds_succ]; go_wp2; go_quiet (fail); go_wp2; go_quiet (fail); go_wp2
  rw [rounds_succ]; go_wp2
  go_ret
  refine ⟨rfl, ?_⟩
  repeat (first | exact Below.refl _ _ | refine Below.drew ?_ | refine below_drewN ?_ _ | refine Below.alloc ?_ (by first | (simp; done) | (simp; omega)) _ | refine Below.setCell ?_ (by first | (simp; done) | (simp; omega)) _)

set_option maxHeartbeats 1000000 in
theorem l01order_glg (a b c x y z : Int) (w : World) (h0 : x < a) (h1 : b < y) (h2 : z < c) :
    Calls Tryz.prog 90 #[.agg #[.int .i64 a, .int .i64 b, .int .i64 c], .agg #[.int .i64 x, .int .i64 y, .int .i64 z]] w fun e w' => e = .returned (.int .i64 3) ∧ Below w.heap.size w w' := by
  have d0 : decide (a < x) = false := by simp; omega
  have d0' : decide (x < a) = true := by simp; omega
  have d1 : decide (b < y) = true := by simp; omega
  have d1' : decide (y < b) = false := by simp; omega
  have d2 : decide (c < z) = false := by simp; omega
  have d2' : decide (z < c) = true := by simp; omega
  go_enter Tryz.func90, Tryz.ntmps90
  go_wp2
  refine wp_loop_rounds 4 ?_
  rw [rounds_succ]; go_wp2; go_quiet (fail); go_wp2; go_quiet (fail); go_wp2
  rw [rounds_succ]; go_wp2; go_quiet (fail); go_wp2; go_quiet (fail); go_wp2
  rw [rounds_succ]; go_wp2; go_quiet (fail); go_wp2; go_quiet (fail); go_wp2
  rw [rounds_succ]; go_wp2
  go_ret
  refine ⟨rfl, ?_⟩
  repeat (first | exact Below.refl _ _ | refine Below.drew ?_ | refine below_drewN ?_ _ | refine Below.alloc ?_ (by first | (simp; done) | (simp; omega)) _ | refine Below.setCell ?_ (by first | (simp; done) | (simp; omega)) _)

set_option maxHeartbeats 1000000 in
theorem l01order_gel (a b c x z : Int) (w : World) (h0 : x < a) (h2 : c < z) :
    Calls Tryz.prog 90 #[.agg #[.int .i64 a, .int .i64 b, .int .i64 c], .agg #[.int .i64 x, .int .i64 b, .int .i64 z]] w fun e w' => e = .returned (.int .i64 3) ∧ Below w.heap.size w w' := by
  have d0 : decide (a < x) = false := by simp; omega
  have d0' : decide (x < a) = true := by simp; omega
  have d2 : decide (c < z) = true := by simp; omega
  have d2' : decide (z < c) = false := by simp; omega
  go_enter Tryz.func90, Tryz.ntmps90
  go_wp2
  refine wp_loop_rounds 4 ?_
  rw [rounds_succ]; go_wp2; go_quiet (fail); go_wp2; go_quiet (fail); go_wp2
  rw [rounds_succ]; go_wp2; go_quiet (fail); go_wp2; go_quiet (fail); go_wp2
  rw [rounds_succ]; go_wp2; go_quiet (fail); go_wp2; go_quiet (fail); go_wp2
  rw [rounds_succ]; go_wp2
  go_ret
  refine ⟨rfl, ?_⟩
  repeat (first | exact Below.refl _ _ | refine Below.drew ?_ | refine below_drewN ?_ _ | refine Below.alloc ?_ (by first | (simp; done) | (simp; omega)) _ | refine Below.setCell ?_ (by first | (simp; done) | (simp; omega)) _)

set_option maxHeartbeats 1000000 in
theorem l01order_gee (a b c x : Int) (w : World) (h0 : x < a) :
    Calls Tryz.prog 90 #[.agg #[.int .i64 a, .int .i64 b, .int .i64 c], .agg #[.int .i64 x, .int .i64 b, .int .i64 c]] w fun e w' => e = .returned (.int .i64 2) ∧ Below w.heap.size w w' := by
  have d0 : decide (a < x) = false := by simp; omega
  have d0' : decide (x < a) = true := by simp; omega
  go_enter Tryz.func90, Tryz.ntmps90
  go_wp2
  refine wp_loop_rounds 4 ?_
  rw [rounds_succ]; go_wp2; go_quiet (fail); go_wp2; go_quiet (fail); go_wp2
  rw [rounds_succ]; go_wp2; go_quiet (fail); go_wp2; go_quiet (fail); go_wp2
  rw [rounds_succ]; go_wp2; go_quiet (fail); go_wp2; go_quiet (fail); go_wp2
  rw [rounds_succ]; go_wp2
  go_ret
  refine ⟨rfl, ?_⟩
  repeat (first | exact Below.refl _ _ | refine Below.drew ?_ | refine below_drewN ?_ _ | refine Below.alloc ?_ (by first | (simp; done) | (simp; omega)) _ | refine Below.setCell ?_ (by first | (simp; done) | (simp; omega)) _)

set_option maxHeartbeats 1000000 in
theorem l01order_geg (a b c x z : Int) (w : World) (h0 : x < a) (h2 : z < c) :
    Calls Tryz.prog 90 #[.agg #[.int .i64 a, .int .i64 b, .int .i64 c], .agg #[.int .i64 x, .int .i64 b, .int .i64 z]] w fun e w' => e = .returned (.int .i64 2) ∧ Below w.heap.size w w' := by
  have d0 : decide (a < x) = false := by simp; omega
  have d0' : decide (x < a) = true := by simp; omega
  have d2 : decide (c < z) = false := by simp; omega
  have d2' : decide (z < c) = true := by simp; omega
  go_enter Tryz.func90, Tryz.ntmps90
  go_wp2
  refine wp_loop_rounds 4 ?_
  rw [rounds_succ]; go_wp2; go_quiet (fail); go_wp2; go_quiet (fail); go_wp2
  rw [rounds_succ]; go_wp2; go_quiet (fail); go_wp2; go_quiet (fail); go_wp2
  rw [rounds_succ]; go_wp2; go_quiet (fail); go_wp2; go_quiet (fail); go_wp2
  rw [rounds_succ]; go_wp2
  go_ret
  refine ⟨rfl, ?_⟩
  repeat (first | exact Below.refl _ _ | refine Below.drew ?_ | refine below_drewN ?_ _ | refine Below.alloc ?_ (by first | (simp; done) | (simp; omega)) _ | refine Below.setCell ?_ (by first | (simp; done) | (simp; omega)) _)

set_option maxHeartbeats 1000000 in
theorem l01order_ggl (a b c x y z : Int) (w : World) (h0 : x < a) (h1 : y < b) (h2 : c < z) :
    Calls Tryz.prog 90 #[.agg #[.int .i64 a, .int .i64 b, .int .i64 c], .agg #[.int .i64 x, .int .i64 y, .int .i64 z]] w fun e w' => e = .returned (.int .i64 3) ∧ Below w.heap.size w w' := by
  have d0 : decide (a < x) = false := by simp; omega
  have d0' : decide (x < a) = true := by simp; omega
  have d1 : decide (b < y) = false := by simp; omega
  have d1' : decide (y < b) = true := by simp; omega
  have d2 : decide (c < z) = true := by simp; omega
  have d2' : decide (z < c) = false := by simp; omega
  go_enter Tryz.func90, Tryz.ntmps90
  go_wp2
  refine wp_loop_rounds 4 ?_
  rw [rounds_succ]; go_wp2; go_quiet (fail); go_wp2; go_quiet (fail); go_wp2
  rw [rounds_succ]; go_wp2; go_quiet (fail); go_wp2; go_quiet (fail); go_wp2
  rw [rounds_succ]; go_wp2; go_quiet (fail); go_wp2; go_quiet (fail); go_wp2
  rw [rounds_succ]; go_wp2
  go_ret
  refine ⟨rfl, ?_⟩
  repeat (first | exact Below.refl _ _ | refine Below.drew ?_ | refine below_drewN ?_ _ | refine Below.alloc ?_ (by first | (simp; done) | (simp; omega)) _ | refine Below.setCell ?_ (by first | (simp; done) | (simp; omega)) _)

set_option maxHeartbeats 1000000 in
theorem l01order_gge (a b c x y : Int) (w : World) (h0 : x < a) (h1 : y < b) :
    Calls Tryz.prog 90 #[.agg #[.int .i64 a, .int .i64 b, .int .i64 c], .agg #[.int .i64 x, .int .i64 y, .int .i64 c]] w fun e w' => e = .returned (.int .i64 2) ∧ Below w.heap.size w w' := by
  have d0 : decide (a < x) = false := by simp; omega
  have d0' : decide (x < a) = true := by simp; omega
  have d1 : decide (b < y) = false := by simp; omega
  have d1' : decide (y < b) = true := by simp; omega
  go_enter Tryz.func90, Tryz.ntmps90
  go_wp2
  refine wp_loop_rounds 4 ?_
  rw [rounds_succ]; go_wp2; go_quiet (fail); go_wp2; go_quiet (fail); go_wp2
  rw [rounds_succ]; go_wp2; go_quiet (fail); go_wp2; go_quiet (fail); go_wp2
  rw [rounds_succ]; go_wp2; go_quiet (fail); go_wp2; go_quiet (fail); go_wp2
  rw [rounds_succ]; go_wp2
  go_ret
  refine ⟨rfl, ?_⟩
  repeat (first | exact Below.refl _ _ | refine Below.drew ?_ | refine below_drewN ?_ _ | refine Below.alloc ?_ (by first | (simp; done) | (simp; omega)) _ | refine Below.setCell ?_ (by first | (simp; done) | (simp; omega)) _)

set_option maxHeartbeats 1000000 in
theorem l01order_ggg (a b c x y z : Int) (w : World) (h0 : x < a) (h1 : y < b) (h2 : z < c) :
    Calls Tryz.prog 90 #[.agg #[.int .i64 a, .int .i64 b, .int .i64 c], .agg #[.int .i64 x, .int .i64 y, .int .i64 z]] w fun e w' => e = .returned (.int .i64 2) ∧ Below w.heap.size w w' := by
  have d0 : decide (a < x) = false := by simp; omega
  have d0' : decide (x < a) = true := by simp; omega
  have d1 : decide (b < y) = false := by simp; omega
  have d1' : decide (y < b) = true := by simp; omega
  have d2 : decide (c < z) = false := by simp; omega
  have d2' : decide (z < c) = true := by simp; omega
  go_enter Tryz.func90, Tryz.ntmps90
  go_wp2
  refine wp_loop_rounds 4 ?_
  rw [rounds_succ]; go_wp2; go_quiet (fail); go_wp2; go_quiet (fail); go_wp2
  rw [rounds_succ]; go_wp2; go_quiet (fail); go_wp2; go_quiet (fail); go_wp2
  rw [rounds_succ]; go_wp2; go_quiet (fail); go_wp2; go_quiet (fail); go_wp2
  rw [rounds_succ]; go_wp2
  go_ret
  refine ⟨rfl, ?_⟩
  repeat (first | exact Below.refl _ _ | refine Below.drew ?_ | refine below_drewN ?_ _ | refine Below.alloc ?_ (by first | (simp; done) | (simp; omega)) _ | refine Below.setCell ?_ (by first | (simp; done) | (simp; omega)) _)

theorem l01_order_all (a b c x y z : Int) (w : World) :
    Calls Tryz.prog 90 #[.agg #[.int .i64 a, .int .i64 b, .int .i64 c], .agg #[.int .i64 x, .int .i64 y, .int .i64 z]] w fun e w' => e = .returned (.int .i64 (ordR a b c x y z)) ∧ Below w.heap.size w w' := by
  rcases tri a x with h0 | h0 | h0 <;> rcases tri b y with h1 | h1 | h1 <;> rcases tri c z with h2 | h2 | h2
  · have hr : 1 = ordR a b c x y z := by (unfold ordR; (repeat' split) <;> omega)
    exact (l01order_lll a b c x y z w h0 h1 h2).mono fun e w' ⟨he, hb⟩ => ⟨he.trans (ret_int hr), hb⟩
  · subst h2; have hr : 1 = ordR a b c x y c := by (unfold ordR; (repeat' split) <;> omega)
    exact (l01order_lle a b c x y w h0 h1).mono fun e w' ⟨he, hb⟩ => ⟨he.trans (ret_int hr), hb⟩
  · have hr : 3 = ordR a b c x y z := by (unfold ordR; (repeat' split) <;> omega)
    exact (l01order_llg a b c x y z w h0 h1 h2).mono fun e w' ⟨he, hb⟩ => ⟨he.trans (ret_int hr), hb⟩
  · subst h1; have hr : 1 = ordR a b c x b z := by (unfold ordR; (repeat' split) <;> omega)
    exact (l01order_lel a b c x z w h0 h2).mono fun e w' ⟨he, hb⟩ => ⟨he.trans (ret_int hr), hb⟩
  · subst h1; subst h2; have hr : 1 = ordR a b c x b c := by (unfold ordR; (repeat' split) <;> omega)
    exact (l01order_lee a b c x w h0).mono fun e w' ⟨he, hb⟩ => ⟨he.trans (ret_int hr), hb⟩
  · subst h1; have hr : 3 = ordR a b c x b z := by (unfold ordR; (repeat' split) <;> omega)
    exact (l01order_leg a b c x z w h0 h2).mono fun e w' ⟨he, hb⟩ => ⟨he.trans (ret_int hr), hb⟩
  · have hr : 3 = ordR a b c x y z := by (unfold ordR; (repeat' split) <;> omega)
    exact (l01order_lgl a b c x y z w h0 h1 h2).mono fun e w' ⟨he, hb⟩ => ⟨he.trans (ret_int hr), hb⟩
  · subst h2; have hr : 3 = ordR a b c x y c := by (unfold ordR; (repeat' split) <;> omega)
    exact (l01order_lge a b c x y w h0 h1).mono fun e w' ⟨he, hb⟩ => ⟨he.trans (ret_int hr), hb⟩
  · have hr : 3 = ordR a b c x y z := by (unfold ordR; (repeat' split) <;> omega)
    exact (l01order_lgg a b c x y z w h0 h1 h2).mono fun e w' ⟨he, hb⟩ => ⟨he.trans (ret_int hr), hb⟩
  · subst h0; have hr : 1 = ordR a b c a y z := by (unfold ordR; (repeat' split) <;> omega)
    exact (l01order_ell a b c y z w h1 h2).mono fun e w' ⟨he, hb⟩ => ⟨he.trans (ret_int hr), hb⟩
  · subst h0; subst h2; have hr : 1 = ordR a b c a y c := by (unfold ordR; (repeat' split) <;> omega)
    exact (l01order_ele a b c y w h1).mono fun e w' ⟨he, hb⟩ => ⟨he.trans (ret_int hr), hb⟩
  · subst h0; have hr : 3 = ordR a b c a y z := by (unfold ordR; (repeat' split) <;> omega)
    exact (l01order_elg a b c y z w h1 h2).mono fun e w' ⟨he, hb⟩ => ⟨he.trans (ret_int hr), hb⟩
  · subst h0; subst h1; have hr : 1 = ordR a b c a b z := by (unfold ordR; (repeat' split) <;> omega)
    exact (l01order_eel a b c z w h2).mono fun e w' ⟨he, hb⟩ => ⟨he.trans (ret_int hr), hb⟩
  · subst h0; subst h1; subst h2; have hr : 0 = ordR a b c a b c := by (unfold ordR; (repeat' split) <;> omega)
    exact (l01order_eee a b c w ).mono fun e w' ⟨he, hb⟩ => ⟨he.trans (ret_int hr), hb⟩
  · subst h0; subst h1; have hr : 2 = ordR a b c a b z := by (unfold ordR; (repeat' split) <;> omega)
    exact (l01order_eeg a b c z w h2).mono fun e w' ⟨he, hb⟩ => ⟨he.trans (ret_int hr), hb⟩
  · subst h0; have hr : 3 = ordR a b c a y z := by (unfold ordR; (repeat' split) <;> omega)
    exact (l01order_egl a b c y z w h1 h2).mono fun e w' ⟨he, hb⟩ => ⟨he.trans (ret_int hr), hb⟩
  · subst h0; subst h2; have hr : 2 = ordR a b c a y c := by (unfold ordR; (repeat' split) <;> omega)
    exact (l01order_ege a b c y w h1).mono fun e w' ⟨he, hb⟩ => ⟨he.trans (ret_int hr), hb⟩
  · subst h0; have hr : 2 = ordR a b c a y z := by (unfold ordR; (repeat' split) <;> omega)
    exact (l01order_egg a b c y z w h1 h2).mono fun e w' ⟨he, hb⟩ => ⟨he.trans (ret_int hr), hb⟩
  · have hr : 3 = ordR a b c x y z := by (unfold ordR; (repeat' split) <;> omega)
    exact (l01order_gll a b c x y z w h0 h1 h2).mono fun e w' ⟨he, hb⟩ => ⟨he.trans (ret_int hr), hb⟩
  · subst h2; have hr : 3 = ordR a b c x y c := by (unfold ordR; (repeat' split) <;> omega)
    exact (l01order_gle a b c x y w h0 h1).mono fun e w' ⟨he, hb⟩ => ⟨he.trans (ret_int hr), hb⟩
  · have hr : 3 = ordR a b c x y z := by (unfold ordR; (repeat' split) <;> omega)
    exact (l01order_glg a b c x y z w h0 h1 h2).mono fun e w' ⟨he, hb⟩ => ⟨he.trans (ret_int hr), hb⟩
  · subst h1; have hr : 3 = ordR a b c x b z := by (unfold ordR; (repeat' split) <;> omega)
    exact (l01order_gel a b c x z w h0 h2).mono fun e w' ⟨he, hb⟩ => ⟨he.trans (ret_int hr), hb⟩
  · subst h1; subst h2; have hr : 2 = ordR a b c x b c := by (unfold ordR; (repeat' split) <;> omega)
    exact (l01order_gee a b c x w h0).mono fun e w' ⟨he, hb⟩ => ⟨he.trans (ret_int hr), hb⟩
  · subst h1; have hr : 2 = ordR a b c x b z := by (unfold ordR; (repeat' split) <;> omega)
    exact (l01order_geg a b c x z w h0 h2).mono fun e w' ⟨he, hb⟩ => ⟨he.trans (ret_int hr), hb⟩
  · have hr : 3 = ordR a b c x y z := by (unfold ordR; (repeat' split) <;> omega)
    exact (l01order_ggl a b c x y z w h0 h1 h2).mono fun e w' ⟨he, hb⟩ => ⟨he.trans (ret_int hr), hb⟩
  · subst h2; have hr : 2 = ordR a b c x y c := by (unfold ordR; (repeat' split) <;> omega)
    exact (l01order_gge a b c x y w h0 h1).mono fun e w' ⟨he, hb⟩ => ⟨he.trans (ret_int hr), hb⟩
  · have hr : 2 = ordR a b c x y z := by (unfold ordR; (repeat' split) <;> omega)
    exact (l01order_ggg a b c x y z w h0 h1 h2).mono fun e w' ⟨he, hb⟩ => ⟨he.trans (ret_int hr), hb⟩
end Go.Proofs.YtkdbcmkmcjaenaaGreatDoor

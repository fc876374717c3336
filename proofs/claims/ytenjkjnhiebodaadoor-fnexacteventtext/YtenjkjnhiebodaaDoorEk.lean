/- What is known: VvOK, DotOK, what is known, as both sides reckon it; a node's number. -/
import Derived.Test.YtenjkjnhiebodaaDoorRows
import Derived.WalkKit
import Derived.WalkSpells
import Derived.WalkLawsBesides
import Derived.Deep.QuietTactic
import Derived.BigQuiet
import Derived.Deep.RegionHeld3
import Derived.Test.YtenjkjnhiebodaaDoorEa
import Derived.LoopN
import Derived.RegionTactic
import Derived.BigRegion
namespace Go.Proofs.YtenjkjnhiebodaaDoor
open Go.RowKit
set_option linter.unusedSimpArgs false
set_option linter.unusedVariables false

def dotB (x y : Int) : Bool := decide (0 ≤ x ∧ x < 3 ∧ 1 ≤ y ∧ y ≤ 9999)
def vvB (a b c : Int) : Bool := decide ((0 ≤ a ∧ a ≤ 9999) ∧ (0 ≤ b ∧ b ≤ 9999) ∧ (0 ≤ c ∧ c ≤ 9999))
def comp (a b c p : Int) : Int := if p = 0 then a else if p = 1 then b else c
theorem idx0 (a b c : Int) (w : World) : (Instr.index 31 (.agg #[.int .i64 a, .int .i64 b, .int .i64 c]) (.int .i64 0)).run Tryd.prog w = .ok (.int .i64 a) w := by kernel_rfl
theorem idx1 (a b c : Int) (w : World) : (Instr.index 31 (.agg #[.int .i64 a, .int .i64 b, .int .i64 c]) (.int .i64 1)).run Tryd.prog w = .ok (.int .i64 b) w := by kernel_rfl
theorem idx2 (a b c : Int) (w : World) : (Instr.index 31 (.agg #[.int .i64 a, .int .i64 b, .int .i64 c]) (.int .i64 2)).run Tryd.prog w = .ok (.int .i64 c) w := by kernel_rfl

set_option maxHeartbeats 1000000 in
theorem spec_vv (a b c : Int) (w : World) :
    Calls Tryd.prog 11 #[.agg #[.int .i64 a, .int .i64 b, .int .i64 c]] w fun e w' => e = .returned (.bool (vvB a b c)) ∧ Below w.heap.size w w' := by
  have cs : a < 0 ∨ (0 ≤ a ∧ 9999 < a) ∨ (0 ≤ a ∧ a ≤ 9999 ∧ b < 0) ∨ (0 ≤ a ∧ a ≤ 9999 ∧ 0 ≤ b ∧ 9999 < b) ∨ (0 ≤ a ∧ a ≤ 9999 ∧ 0 ≤ b ∧ b ≤ 9999 ∧ c < 0) ∨ (0 ≤ a ∧ a ≤ 9999 ∧ 0 ≤ b ∧ b ≤ 9999 ∧ 0 ≤ c ∧ 9999 < c) ∨ (0 ≤ a ∧ a ≤ 9999 ∧ 0 ≤ b ∧ b ≤ 9999 ∧ 0 ≤ c ∧ c ≤ 9999) := by omega
  have i0 := idx0 a b c
  have i1 := idx1 a b c
  have i2 := idx2 a b c
  rcases cs with h1 | ⟨h1, h2⟩ | ⟨h1, h2, h3⟩ | ⟨h1, h2, h3, h4⟩ | ⟨h1, h2, h3, h4, h5⟩ | ⟨h1, h2, h3, h4, h5, h6⟩ | ⟨h1, h2, h3, h4, h5, h6⟩
  case inr.inr.inr.inr.inr.inr =>
    have HB : Hid (vvB a b c = true) := decide_eq_true (by omega)
    go_enter Tryd.func11, Tryd.ntmps11
    go_wp2
    refine wp_loop_rounds 4 ?_
    repeat (rw [rounds_succ]; go_wp2)
    go_ret
    exact ⟨ret_bool HB.out.symm, (Below.refl _ _).alloc (Nat.le_refl _) _⟩
  all_goals
    have HB : Hid (vvB a b c = false) := decide_eq_false (by omega)
    try (have da : decide (a ≤ 9999) = false := decide_eq_false (by omega))
    try (have db : decide (b ≤ 9999) = false := decide_eq_false (by omega))
    try (have dc : decide (c ≤ 9999) = false := decide_eq_false (by omega))
    go_enter Tryd.func11, Tryd.ntmps11
    go_wp2
    refine wp_loop_rounds 4 ?_
    repeat (rw [rounds_succ]; go_wp2)
    go_ret
    exact ⟨ret_bool HB.out.symm, (Below.refl _ _).alloc (Nat.le_refl _) _⟩

set_option maxHeartbeats 1000000 in
theorem impl_vv (a b c : Int) (w : World) :
    Calls Tryd.prog 27 #[.agg #[.int .i64 a, .int .i64 b, .int .i64 c]] w fun e w' => e = .returned (.bool (vvB a b c)) ∧ Below w.heap.size w w' := by
  have cs : a < 0 ∨ (0 ≤ a ∧ 9999 < a) ∨ (0 ≤ a ∧ a ≤ 9999 ∧ b < 0) ∨ (0 ≤ a ∧ a ≤ 9999 ∧ 0 ≤ b ∧ 9999 < b) ∨ (0 ≤ a ∧ a ≤ 9999 ∧ 0 ≤ b ∧ b ≤ 9999 ∧ c < 0) ∨ (0 ≤ a ∧ a ≤ 9999 ∧ 0 ≤ b ∧ b ≤ 9999 ∧ 0 ≤ c ∧ 9999 < c) ∨ (0 ≤ a ∧ a ≤ 9999 ∧ 0 ≤ b ∧ b ≤ 9999 ∧ 0 ≤ c ∧ c ≤ 9999) := by omega
  have i0 := idx0 a b c
  have i1 := idx1 a b c
  have i2 := idx2 a b c
  rcases cs with h1 | ⟨h1, h2⟩ | ⟨h1, h2, h3⟩ | ⟨h1, h2, h3, h4⟩ | ⟨h1, h2, h3, h4, h5⟩ | ⟨h1, h2, h3, h4, h5, h6⟩ | ⟨h1, h2, h3, h4, h5, h6⟩
  case inr.inr.inr.inr.inr.inr =>
    have HB : Hid (vvB a b c = true) := decide_eq_true (by omega)
    go_enter Tryd.func27, Tryd.ntmps27
    go_wp2
    refine wp_loop_rounds 4 ?_
    repeat (rw [rounds_succ]; go_wp2)
    go_ret
    exact ⟨ret_bool HB.out.symm, (Below.refl _ _).alloc (Nat.le_refl _) _⟩
  all_goals
    have HB : Hid (vvB a b c = false) := decide_eq_false (by omega)
    try (have da : decide (a ≤ 9999) = false := decide_eq_false (by omega))
    try (have db : decide (b ≤ 9999) = false := decide_eq_false (by omega))
    try (have dc : decide (c ≤ 9999) = false := decide_eq_false (by omega))
    go_enter Tryd.func27, Tryd.ntmps27
    go_wp2
    refine wp_loop_rounds 4 ?_
    repeat (rw [rounds_succ]; go_wp2)
    go_ret
    exact ⟨ret_bool HB.out.symm, (Below.refl _ _).alloc (Nat.le_refl _) _⟩

set_option maxHeartbeats 400000 in
theorem spec_dot (p q : Int) (w : World) :
    Calls Tryd.prog 8 #[.agg #[.int .i64 p, .int .i64 q]] w fun e w' => e = .returned (.bool (dotB p q)) ∧ Below w.heap.size w w' := by
  by_cases h1 : 0 ≤ p <;> by_cases h2 : p < 3 <;> by_cases h3 : 1 ≤ q <;> by_cases h4 : q ≤ 9999
  all_goals first
    | (exfalso; omega)
    | skip
  all_goals
    have HB : Hid (dotB p q = (decide (0 ≤ p ∧ p < 3 ∧ 1 ≤ q ∧ q ≤ 9999))) := rfl
    go_enter Tryd.func8, Tryd.ntmps8
    go_wp2
    go_ret
    refine ⟨ret_bool (by rw [HB.out]; simp [h1, h2, h3, h4]), ?_⟩
    repeat (first | exact Below.refl _ _ | refine Below.drew ?_ | refine below_drewN ?_ _ | refine Below.alloc ?_ (by first | (simp; done) | (simp; omega)) _ | refine Below.setCell ?_ (by first | (simp; done) | (simp; omega)) _)
set_option maxHeartbeats 400000 in
theorem isNode_any (a : Int) (w : World) : Calls Tryd.prog 32 #[.int .i64 a] w fun e w' => e = .returned (.bool (decide (0 ≤ a ∧ a < 3))) ∧ w' = w := by
  by_cases h0 : 0 ≤ a
  · by_cases h1 : a < 3
    · have HD : Hid (decide (0 ≤ a ∧ a < 3) = true) := decide_eq_true ⟨h0, by omega⟩
      go_enter Tryd.func32, Tryd.ntmps32
      go_wp2
      go_ret
      exact ⟨ret_bool HD.out.symm, rfl⟩
    · have HD : Hid (decide (0 ≤ a ∧ a < 3) = false) := decide_eq_false (by omega)
      go_enter Tryd.func32, Tryd.ntmps32
      go_wp2
      go_ret
      exact ⟨ret_bool (by first | exact HD.out.symm | (simp; done) | (simp; omega)), rfl⟩
  · have HD : Hid (decide (0 ≤ a ∧ a < 3) = false) := decide_eq_false (by omega)
    go_enter Tryd.func32, Tryd.ntmps32
    go_wp2
    go_ret
    exact ⟨ret_bool (by first | exact HD.out.symm | (simp; done) | (simp; omega)), rfl⟩
set_option maxHeartbeats 400000 in
theorem l01In_any (a lo hi : Int) (w : World) : Calls Tryd.prog 10 #[.int .i64 a, .int .i64 lo, .int .i64 hi] w fun e w' => e = .returned (.bool (decide (lo ≤ a ∧ a ≤ hi))) ∧ w' = w := by
  by_cases h0 : lo ≤ a
  · by_cases h1 : a ≤ hi
    · have HD : Hid (decide (lo ≤ a ∧ a ≤ hi) = true) := decide_eq_true ⟨h0, by omega⟩
      go_enter Tryd.func10, Tryd.ntmps10
      go_wp2
      go_ret
      exact ⟨ret_bool HD.out.symm, rfl⟩
    · have HD : Hid (decide (lo ≤ a ∧ a ≤ hi) = false) := decide_eq_false (by omega)
      go_enter Tryd.func10, Tryd.ntmps10
      go_wp2
      go_ret
      exact ⟨ret_bool (by first | exact HD.out.symm | (simp; done) | (simp; omega)), rfl⟩
  · have HD : Hid (decide (lo ≤ a ∧ a ≤ hi) = false) := decide_eq_false (by omega)
    go_enter Tryd.func10, Tryd.ntmps10
    go_wp2
    go_ret
    exact ⟨ret_bool (by first | exact HD.out.symm | (simp; done) | (simp; omega)), rfl⟩
set_option maxHeartbeats 400000 in
theorem l01Node_any (a : Int) (w : World) : Calls Tryd.prog 20 #[.int .i64 a] w fun e w' => e = .returned (.bool (decide (0 ≤ a ∧ a < 3))) ∧ w' = w := by
  go_enter Tryd.func20, Tryd.ntmps20
  go_wp2_with fail
  refine (l01In_any a 0 2 w).mono ?_
  rintro e w1 ⟨rfl, rfl⟩
  have HD : Hid (decide ((0 : Int) ≤ a ∧ a ≤ 2) = decide (0 ≤ a ∧ a < 3)) := by
    show _ = _
    congr 1
    exact propext ⟨fun h => ⟨h.1, by omega⟩, fun h => ⟨h.1, by omega⟩⟩
  generalize decide ((0 : Int) ≤ a ∧ a ≤ 2) = r at *
  go_wp2
  go_ret
  exact ⟨ret_bool HD.out, rfl⟩
theorem impl_dot (p q : Int) (w : World) :
    Calls Tryd.prog 24 #[.agg #[.int .i64 p, .int .i64 q]] w fun e w' => e = .returned (.bool (dotB p q)) ∧ Below w.heap.size w w' := by
  by_cases hp : 0 ≤ p ∧ p < 3
  · have C : Hid (∀ W, Calls Tryd.prog 32 #[.int .i64 p] W fun e w' => e = .returned (.bool true) ∧ w' = W) := fun W => by
      have h := isNode_any p W
      rw [decide_eq_true hp] at h
      exact h
    by_cases h3 : 1 ≤ q <;> by_cases h4 : q ≤ 9999
    all_goals first
      | (exfalso; omega)
      | skip
    all_goals
      have HB : Hid (dotB p q = (decide (0 ≤ p ∧ p < 3 ∧ 1 ≤ q ∧ q ≤ 9999))) := rfl
      go_enter Tryd.func24, Tryd.ntmps24
      go_wp2_with fail
      refine Calls.mono (C.out _) ?_
      rintro e w1 ⟨rfl, rfl⟩
      go_wp2
      go_ret
      exact ⟨ret_bool (by rw [HB.out]; simp [hp, h3, h4]), bel_alloc _ _⟩
  · have C : Hid (∀ W, Calls Tryd.prog 32 #[.int .i64 p] W fun e w' => e = .returned (.bool false) ∧ w' = W) := fun W => by
      have h := isNode_any p W
      rw [decide_eq_false hp] at h
      exact h
    have HB : Hid (dotB p q = false) := decide_eq_false (by omega)
    clear hp
    go_enter Tryd.func24, Tryd.ntmps24
    go_wp2_with fail
    refine Calls.mono (C.out _) ?_
    rintro e w1 ⟨rfl, rfl⟩
    go_wp2
    go_ret
    exact ⟨ret_bool HB.out.symm, bel_alloc _ _⟩

def upd (p q : Int) (i : Int) (x : Int) : Int := if p = i then q else x
theorem dot_node {p q : Int} (h : dotB p q = true) : 0 ≤ p ∧ p < 3 := by
  have := of_decide_eq_true h
  omega

end Go.Proofs.YtenjkjnhiebodaaDoor

/- What is known: VvOK, DotOK, what is known, as both sides reckon it; a node's number. -/
import Derived.Test.YtkdbcmkmcjaenaaGreatDoorRows
import Derived.WalkKit
import Derived.WalkSpells
import Derived.WalkLawsBesides
import Derived.Deep.QuietTactic
import Derived.BigQuiet
import Derived.Deep.RegionHeld3
import Derived.Test.YtkdbcmkmcjaenaaGreatDoorEa
import Derived.LoopN
import Derived.RegionTactic
import Derived.BigRegion
namespace Go.Proofs.YtkdbcmkmcjaenaaGreatDoor
open Go.RowKit
set_option linter.unusedSimpArgs false
set_option linter.unusedVariables false

def dotB (x y : Int) : Bool := decide (0 ≤ x ∧ x < 3 ∧ 1 ≤ y ∧ y ≤ 9999)
def vvB (a b c : Int) : Bool := decide ((0 ≤ a ∧ a ≤ 9999) ∧ (0 ≤ b ∧ b ≤ 9999) ∧ (0 ≤ c ∧ c ≤ 9999))
def comp (a b c p : Int) : Int := if p = 0 then a else if p = 1 then b else c
theorem idx0 (a b c : Int) (w : World) : (Instr.index 32 (.agg #[.int .i64 a, .int .i64 b, .int .i64 c]) (.int .i64 0)).run Tryz.prog w = .ok (.int .i64 a) w := by kernel_rfl
theorem idx1 (a b c : Int) (w : World) : (Instr.index 32 (.agg #[.int .i64 a, .int .i64 b, .int .i64 c]) (.int .i64 1)).run Tryz.prog w = .ok (.int .i64 b) w := by kernel_rfl
theorem idx2 (a b c : Int) (w : World) : (Instr.index 32 (.agg #[.int .i64 a, .int .i64 b, .int .i64 c]) (.int .i64 2)).run Tryz.prog w = .ok (.int .i64 c) w := by kernel_rfl

set_option maxHeartbeats 1000000 in
theorem spec_vv (a b c : Int) (w : World) :
    Calls Tryz.prog 46 #[.agg #[.int .i64 a, .int .i64 b, .int .i64 c]] w fun e w' => e = .returned (.bool (vvB a b c)) ∧ Below w.heap.size w w' := by
  have cs : a < 0 ∨ (0 ≤ a ∧ 9999 < a) ∨ (0 ≤ a ∧ a ≤ 9999 ∧ b < 0) ∨ (0 ≤ a ∧ a ≤ 9999 ∧ 0 ≤ b ∧ 9999 < b) ∨ (0 ≤ a ∧ a ≤ 9999 ∧ 0 ≤ b ∧ b ≤ 9999 ∧ c < 0) ∨ (0 ≤ a ∧ a ≤ 9999 ∧ 0 ≤ b ∧ b ≤ 9999 ∧ 0 ≤ c ∧ 9999 < c) ∨ (0 ≤ a ∧ a ≤ 9999 ∧ 0 ≤ b ∧ b ≤ 9999 ∧ 0 ≤ c ∧ c ≤ 9999) := by omega
  have i0 := idx0 a b c
  have i1 := idx1 a b c
  have i2 := idx2 a b c
  rcases cs with h1 | ⟨h1, h2⟩ | ⟨h1, h2, h3⟩ | ⟨h1, h2, h3, h4⟩ | ⟨h1, h2, h3, h4, h5⟩ | ⟨h1, h2, h3, h4, h5, h6⟩ | ⟨h1, h2, h3, h4, h5, h6⟩
  case inr.inr.inr.inr.inr.inr =>
    have HB : Hid (vvB a b c = true) := decide_eq_true (by omega)
    go_enter Tryz.func46, Tryz.ntmps46
    go_wp2
    refine wp_loop_rounds 4 ?_
    repeat (rw [rounds_succ]; go_wp2)
    go_ret
    exact ⟨ret_bool HB.out.symm, (Below.refl _ _).alloc (Nat.le_refl _) _⟩
  all_goals
    have HB : Hid (vvB a b c = false) := decide_eq_false (by omega)
    try (have da : decide (a ≤ 9999) = false := decide_eq_false (by omega))
    try (have db : decide (b ≤ 9999) = false := decide_eq_false (by omega))
    try (have dc : decide (c ≤ 9999) = false := decide_eq_false (by omega))
    go_enter Tryz.func46, Tryz.ntmps46
    go_wp2
    refine wp_loop_rounds 4 ?_
    repeat (rw [rounds_succ]; go_wp2)
    go_ret
    exact ⟨ret_bool HB.out.symm, (Below.refl _ _).alloc (Nat.le_refl _) _⟩

set_option maxHeartbeats 1000000 in
theorem impl_vv (a b c : Int) (w : World) :
    Calls Tryz.prog 31 #[.agg #[.int .i64 a, .int .i64 b, .int .i64 c]] w fun e w' => e = .returned (.bool (vvB a b c)) ∧ Below w.heap.size w w' := by
  have cs : a < 0 ∨ (0 ≤ a ∧ 9999 < a) ∨ (0 ≤ a ∧ a ≤ 9999 ∧ b < 0) ∨ (0 ≤ a ∧ a ≤ 9999 ∧ 0 ≤ b ∧ 9999 < b) ∨ (0 ≤ a ∧ a ≤ 9999 ∧ 0 ≤ b ∧ b ≤ 9999 ∧ c < 0) ∨ (0 ≤ a ∧ a ≤ 9999 ∧ 0 ≤ b ∧ b ≤ 9999 ∧ 0 ≤ c ∧ 9999 < c) ∨ (0 ≤ a ∧ a ≤ 9999 ∧ 0 ≤ b ∧ b ≤ 9999 ∧ 0 ≤ c ∧ c ≤ 9999) := by omega
  have i0 := idx0 a b c
  have i1 := idx1 a b c
  have i2 := idx2 a b c
  rcases cs with h1 | ⟨h1, h2⟩ | ⟨h1, h2, h3⟩ | ⟨h1, h2, h3, h4⟩ | ⟨h1, h2, h3, h4, h5⟩ | ⟨h1, h2, h3, h4, h5, h6⟩ | ⟨h1, h2, h3, h4, h5, h6⟩
  case inr.inr.inr.inr.inr.inr =>
    have HB : Hid (vvB a b c = true) := decide_eq_true (by omega)
    go_enter Tryz.func31, Tryz.ntmps31
    go_wp2
    refine wp_loop_rounds 4 ?_
    repeat (rw [rounds_succ]; go_wp2)
    go_ret
    exact ⟨ret_bool HB.out.symm, (Below.refl _ _).alloc (Nat.le_refl _) _⟩
  all_goals
    have HB : Hid (vvB a b c = false) := decide_eq_false (by omega)
    try (have da : decide (a ≤ 9999) = false := decide_eq_false (by omega))
    try (have db : decide (b ≤ 9999) = false := decide_eq_false (by omega))
    try (have dc : decide (c ≤ 9999) = false := decide_eq_false (by omega))
    go_enter Tryz.func31, Tryz.ntmps31
    go_wp2
    refine wp_loop_rounds 4 ?_
    repeat (rw [rounds_succ]; go_wp2)
    go_ret
    exact ⟨ret_bool HB.out.symm, (Below.refl _ _).alloc (Nat.le_refl _) _⟩

set_option maxHeartbeats 400000 in
theorem spec_dot (p q : Int) (w : World) :
    Calls Tryz.prog 44 #[.agg #[.int .i64 p, .int .i64 q]] w fun e w' => e = .returned (.bool (dotB p q)) ∧ Below w.heap.size w w' := by
  by_cases h1 : 0 ≤ p <;> by_cases h2 : p < 3 <;> by_cases h3 : 1 ≤ q <;> by_cases h4 : q ≤ 9999
  all_goals first
    | (exfalso; omega)
    | skip
  all_goals
    have HB : Hid (dotB p q = (decide (0 ≤ p ∧ p < 3 ∧ 1 ≤ q ∧ q ≤ 9999))) := rfl
    go_enter Tryz.func44, Tryz.ntmps44
    go_wp2
    go_ret
    refine ⟨ret_bool (by rw [HB.out]; simp [h1, h2, h3, h4]), ?_⟩
    repeat (first | exact Below.refl _ _ | refine Below.drew ?_ | refine below_drewN ?_ _ | refine Below.alloc ?_ (by first | (simp; done) | (simp; omega)) _ | refine Below.setCell ?_ (by first | (simp; done) | (simp; omega)) _)
set_option maxHeartbeats 400000 in
theorem isNode_any (a : Int) (w : World) : Calls Tryz.prog 65 #[.int .i64 a] w fun e w' => e = .returned (.bool (decide (0 ≤ a ∧ a < 3))) ∧ w' = w := by
  by_cases h0 : 0 ≤ a
  · by_cases h1 : a < 3
    · have HD : Hid (decide (0 ≤ a ∧ a < 3) = true) := decide_eq_true ⟨h0, by omega⟩
      go_enter Tryz.func65, Tryz.ntmps65
      go_wp2
      go_ret
      exact ⟨ret_bool HD.out.symm, rfl⟩
    · have HD : Hid (decide (0 ≤ a ∧ a < 3) = false) := decide_eq_false (by omega)
      go_enter Tryz.func65, Tryz.ntmps65
      go_wp2
      go_ret
      exact ⟨ret_bool (by first | exact HD.out.symm | (simp; done) | (simp; omega)), rfl⟩
  · have HD : Hid (decide (0 ≤ a ∧ a < 3) = false) := decide_eq_false (by omega)
    go_enter Tryz.func65, Tryz.ntmps65
    go_wp2
    go_ret
    exact ⟨ret_bool (by first | exact HD.out.symm | (simp; done) | (simp; omega)), rfl⟩
set_option maxHeartbeats 400000 in
theorem l01In_any (a lo hi : Int) (w : World) : Calls Tryz.prog 45 #[.int .i64 a, .int .i64 lo, .int .i64 hi] w fun e w' => e = .returned (.bool (decide (lo ≤ a ∧ a ≤ hi))) ∧ w' = w := by
  by_cases h0 : lo ≤ a
  · by_cases h1 : a ≤ hi
    · have HD : Hid (decide (lo ≤ a ∧ a ≤ hi) = true) := decide_eq_true ⟨h0, by omega⟩
      go_enter Tryz.func45, Tryz.ntmps45
      go_wp2
      go_ret
      exact ⟨ret_bool HD.out.symm, rfl⟩
    · have HD : Hid (decide (lo ≤ a ∧ a ≤ hi) = false) := decide_eq_false (by omega)
      go_enter Tryz.func45, Tryz.ntmps45
      go_wp2
      go_ret
      exact ⟨ret_bool (by first | exact HD.out.symm | (simp; done) | (simp; omega)), rfl⟩
  · have HD : Hid (decide (lo ≤ a ∧ a ≤ hi) = false) := decide_eq_false (by omega)
    go_enter Tryz.func45, Tryz.ntmps45
    go_wp2
    go_ret
    exact ⟨ret_bool (by first | exact HD.out.symm | (simp; done) | (simp; omega)), rfl⟩
set_option maxHeartbeats 400000 in
theorem l01Node_any (a : Int) (w : World) : Calls Tryz.prog 73 #[.int .i64 a] w fun e w' => e = .returned (.bool (decide (0 ≤ a ∧ a < 3))) ∧ w' = w := by
  go_enter Tryz.func73, Tryz.ntmps73
  go_wp2_with fail
  refine (l01In_any a 0 2 w).mono ?_
  rintro e w1 ⟨rfl, rfl⟩
  have HD : Hid (decide ((0 : Int) ≤ a ∧ a ≤ 2) = decide (0 ≤ a ∧ a < 3)) := by
    show _ = _
    congr 1
    exact propext ⟨fun h => ⟨h.1, by omega⟩, fun h => ⟨h.1, by omega⟩⟩
  generalize decide ((0 : Int) ≤ a ∧ a ≤ 2) = r at *
  go_wp2
  go_ret
  exact ⟨ret_bool HD.out, rfl⟩
theorem impl_dot (p q : Int) (w : World) :
    Calls Tryz.prog 35 #[.agg #[.int .i64 p, .int .i64 q]] w fun e w' => e = .returned (.bool (dotB p q)) ∧ Below w.heap.size w w' := by
  by_cases hp : 0 ≤ p ∧ p < 3
  · have C : Hid (∀ W, Calls Tryz.prog 65 #[.int .i64 p] W fun e w' => e = .returned (.bool true) ∧ w' = W) := fun W => by
      have h := isNode_any p W
      rw [decide_eq_true hp] at h
      exact h
    by_cases h3 : 1 ≤ q <;> by_cases h4 : q ≤ 9999
    all_goals first
      | (exfalso; omega)
      | skip
    all_goals
      have HB : Hid (dotB p q = (decide (0 ≤ p ∧ p < 3 ∧ 1 ≤ q ∧ q ≤ 9999))) := rfl
      go_enter Tryz.func35, Tryz.ntmps35
      go_wp2_with fail
      refine Calls.mono (C.out _) ?_
      rintro e w1 ⟨rfl, rfl⟩
      go_wp2
      go_ret
      exact ⟨ret_bool (by rw [HB.out]; simp [hp, h3, h4]), bel_alloc _ _⟩
  · have C : Hid (∀ W, Calls Tryz.prog 65 #[.int .i64 p] W fun e w' => e = .returned (.bool false) ∧ w' = W) := fun W => by
      have h := isNode_any p W
      rw [decide_eq_false hp] at h
      exact h
    have HB : Hid (dotB p q = false) := decide_eq_false (by omega)
    clear hp
    go_enter Tryz.func35, Tryz.ntmps35
    go_wp2_with fail
    refine Calls.mono (C.out _) ?_
    rintro e w1 ⟨rfl, rfl⟩
    go_wp2
    go_ret
    exact ⟨ret_bool HB.out.symm, bel_alloc _ _⟩

set_option maxHeartbeats 1000000 in
theorem has_0true (a b c q : Int) (w : World) (hq : q ≤ a) :
    Calls Tryz.prog 94 #[.agg #[.int .i64 a, .int .i64 b, .int .i64 c], .agg #[.int .i64 0, .int .i64 q]] w fun e w' => e = .returned (.bool true) ∧ Below w.heap.size w w' := by
  have dq : decide (q ≤ a) = true := by simp; omega
  go_enter Tryz.func94, Tryz.ntmps94
  go_wp2
  go_quiet (fail)
  go_wp2
  go_ret
  refine ⟨ret_bool (by simp [dq]), ?_⟩
  repeat (first | exact Below.refl _ _ | refine Below.drew ?_ | refine below_drewN ?_ _ | refine Below.alloc ?_ (by first | (simp; done) | (simp; omega)) _ | refine Below.setCell ?_ (by first | (simp; done) | (simp; omega)) _)

set_option maxHeartbeats 1000000 in
theorem has_0false (a b c q : Int) (w : World) (hq : a < q) :
    Calls Tryz.prog 94 #[.agg #[.int .i64 a, .int .i64 b, .int .i64 c], .agg #[.int .i64 0, .int .i64 q]] w fun e w' => e = .returned (.bool false) ∧ Below w.heap.size w w' := by
  have dq : decide (q ≤ a) = false := by simp; omega
  go_enter Tryz.func94, Tryz.ntmps94
  go_wp2
  go_quiet (fail)
  go_wp2
  go_ret
  refine ⟨ret_bool (by simp [dq]), ?_⟩
  repeat (first | exact Below.refl _ _ | refine Below.drew ?_ | refine below_drewN ?_ _ | refine Below.alloc ?_ (by first | (simp; done) | (simp; omega)) _ | refine Below.setCell ?_ (by first | (simp; done) | (simp; omega)) _)

set_option maxHeartbeats 1000000 in
theorem has_1true (a b c q : Int) (w : World) (hq : q ≤ b) :
    Calls Tryz.prog 94 #[.agg #[.int .i64 a, .int .i64 b, .int .i64 c], .agg #[.int .i64 1, .int .i64 q]] w fun e w' => e = .returned (.bool true) ∧ Below w.heap.size w w' := by
  have dq : decide (q ≤ b) = true := by simp; omega
  go_enter Tryz.func94, Tryz.ntmps94
  go_wp2
  go_quiet (fail)
  go_wp2
  go_ret
  refine ⟨ret_bool (by simp [dq]), ?_⟩
  repeat (first | exact Below.refl _ _ | refine Below.drew ?_ | refine below_drewN ?_ _ | refine Below.alloc ?_ (by first | (simp; done) | (simp; omega)) _ | refine Below.setCell ?_ (by first | (simp; done) | (simp; omega)) _)

set_option maxHeartbeats 1000000 in
theorem has_1false (a b c q : Int) (w : World) (hq : b < q) :
    Calls Tryz.prog 94 #[.agg #[.int .i64 a, .int .i64 b, .int .i64 c], .agg #[.int .i64 1, .int .i64 q]] w fun e w' => e = .returned (.bool false) ∧ Below w.heap.size w w' := by
  have dq : decide (q ≤ b) = false := by simp; omega
  go_enter Tryz.func94, Tryz.ntmps94
  go_wp2
  go_quiet (fail)
  go_wp2
  go_ret
  refine ⟨ret_bool (by simp [dq]), ?_⟩
  repeat (first | exact Below.refl _ _ | refine Below.drew ?_ | refine below_drewN ?_ _ | refine Below.alloc ?_ (by first | (simp; done) | (simp; omega)) _ | refine Below.setCell ?_ (by first | (simp; done) | (simp; omega)) _)

set_option maxHeartbeats 1000000 in
theorem has_2true (a b c q : Int) (w : World) (hq : q ≤ c) :
    Calls Tryz.prog 94 #[.agg #[.int .i64 a, .int .i64 b, .int .i64 c], .agg #[.int .i64 2, .int .i64 q]] w fun e w' => e = .returned (.bool true) ∧ Below w.heap.size w w' := by
  have dq : decide (q ≤ c) = true := by simp; omega
  go_enter Tryz.func94, Tryz.ntmps94
  go_wp2
  go_quiet (fail)
  go_wp2
  go_ret
  refine ⟨ret_bool (by simp [dq]), ?_⟩
  repeat (first | exact Below.refl _ _ | refine Below.drew ?_ | refine below_drewN ?_ _ | refine Below.alloc ?_ (by first | (simp; done) | (simp; omega)) _ | refine Below.setCell ?_ (by first | (simp; done) | (simp; omega)) _)

set_option maxHeartbeats 1000000 in
theorem has_2false (a b c q : Int) (w : World) (hq : c < q) :
    Calls Tryz.prog 94 #[.agg #[.int .i64 a, .int .i64 b, .int .i64 c], .agg #[.int .i64 2, .int .i64 q]] w fun e w' => e = .returned (.bool false) ∧ Below w.heap.size w w' := by
  have dq : decide (q ≤ c) = false := by simp; omega
  go_enter Tryz.func94, Tryz.ntmps94
  go_wp2
  go_quiet (fail)
  go_wp2
  go_ret
  refine ⟨ret_bool (by simp [dq]), ?_⟩
  repeat (first | exact Below.refl _ _ | refine Below.drew ?_ | refine below_drewN ?_ _ | refine Below.alloc ?_ (by first | (simp; done) | (simp; omega)) _ | refine Below.setCell ?_ (by first | (simp; done) | (simp; omega)) _)

theorem has_any (a b c p q : Int) (w : World) (h0 : 0 ≤ p) (h3 : p < 3) :
    Calls Tryz.prog 94 #[.agg #[.int .i64 a, .int .i64 b, .int .i64 c], .agg #[.int .i64 p, .int .i64 q]] w fun e w' => e = .returned (.bool (decide (q ≤ comp a b c p))) ∧ Below w.heap.size w w' := by
  have hp : p = 0 ∨ p = 1 ∨ p = 2 := by omega
  rcases hp with rfl | rfl | rfl
  · by_cases h : q ≤ a
    · exact (has_0true a b c q w h).mono fun e w' ⟨he, hb⟩ => ⟨he.trans (ret_bool (by simp [comp, h])), hb⟩
    · exact (has_0false a b c q w (by omega)).mono fun e w' ⟨he, hb⟩ => ⟨he.trans (ret_bool (by simp [comp, h])), hb⟩
  · by_cases h : q ≤ b
    · exact (has_1true a b c q w h).mono fun e w' ⟨he, hb⟩ => ⟨he.trans (ret_bool (by simp [comp, h])), hb⟩
    · exact (has_1false a b c q w (by omega)).mono fun e w' ⟨he, hb⟩ => ⟨he.trans (ret_bool (by simp [comp, h])), hb⟩
  · by_cases h : q ≤ c
    · exact (has_2true a b c q w h).mono fun e w' ⟨he, hb⟩ => ⟨he.trans (ret_bool (by simp [comp, h])), hb⟩
    · exact (has_2false a b c q w (by omega)).mono fun e w' ⟨he, hb⟩ => ⟨he.trans (ret_bool (by simp [comp, h])), hb⟩

set_option maxHeartbeats 1000000 in
theorem knows_0true (a b c q : Int) (w : World) (hq : q ≤ a) :
    Calls Tryz.prog 33 #[.agg #[.int .i64 a, .int .i64 b, .int .i64 c], .agg #[.int .i64 0, .int .i64 q]] w fun e w' => e = .returned (.bool true) ∧ Below w.heap.size w w' := by
  have dq : decide (q ≤ a) = true := by simp; omega
  go_enter Tryz.func33, Tryz.ntmps33
  go_wp2
  go_quiet (fail)
  go_wp2
  go_ret
  refine ⟨ret_bool (by simp [dq]), ?_⟩
  repeat (first | exact Below.refl _ _ | refine Below.drew ?_ | refine below_drewN ?_ _ | refine Below.alloc ?_ (by first | (simp; done) | (simp; omega)) _ | refine Below.setCell ?_ (by first | (simp; done) | (simp; omega)) _)

set_option maxHeartbeats 1000000 in
theorem knows_0false (a b c q : Int) (w : World) (hq : a < q) :
    Calls Tryz.prog 33 #[.agg #[.int .i64 a, .int .i64 b, .int .i64 c], .agg #[.int .i64 0, .int .i64 q]] w fun e w' => e = .returned (.bool false) ∧ Below w.heap.size w w' := by
  have dq : decide (q ≤ a) = false := by simp; omega
  go_enter Tryz.func33, Tryz.ntmps33
  go_wp2
  go_quiet (fail)
  go_wp2
  go_ret
  refine ⟨ret_bool (by simp [dq]), ?_⟩
  repeat (first | exact Below.refl _ _ | refine Below.drew ?_ | refine below_drewN ?_ _ | refine Below.alloc ?_ (by first | (simp; done) | (simp; omega)) _ | refine Below.setCell ?_ (by first | (simp; done) | (simp; omega)) _)

set_option maxHeartbeats 1000000 in
theorem knows_1true (a b c q : Int) (w : World) (hq : q ≤ b) :
    Calls Tryz.prog 33 #[.agg #[.int .i64 a, .int .i64 b, .int .i64 c], .agg #[.int .i64 1, .int .i64 q]] w fun e w' => e = .returned (.bool true) ∧ Below w.heap.size w w' := by
  have dq : decide (q ≤ b) = true := by simp; omega
  go_enter Tryz.func33, Tryz.ntmps33
  go_wp2
  go_quiet (fail)
  go_wp2
  go_ret
  refine ⟨ret_bool (by simp [dq]), ?_⟩
  repeat (first | exact Below.refl _ _ | refine Below.drew ?_ | refine below_drewN ?_ _ | refine Below.alloc ?_ (by first | (simp; done) | (simp; omega)) _ | refine Below.setCell ?_ (by first | (simp; done) | (simp; omega)) _)

set_option maxHeartbeats 1000000 in
theorem knows_1false (a b c q : Int) (w : World) (hq : b < q) :
    Calls Tryz.prog 33 #[.agg #[.int .i64 a, .int .i64 b, .int .i64 c], .agg #[.int .i64 1, .int .i64 q]] w fun e w' => e = .returned (.bool false) ∧ Below w.heap.size w w' := by
  have dq : decide (q ≤ b) = false := by simp; omega
  go_enter Tryz.func33, Tryz.ntmps33
  go_wp2
  go_quiet (fail)
  go_wp2
  go_ret
  refine ⟨ret_bool (by simp [dq]), ?_⟩
  repeat (first | exact Below.refl _ _ | refine Below.drew ?_ | refine below_drewN ?_ _ | refine Below.alloc ?_ (by first | (simp; done) | (simp; omega)) _ | refine Below.setCell ?_ (by first | (simp; done) | (simp; omega)) _)

set_option maxHeartbeats 1000000 in
theorem knows_2true (a b c q : Int) (w : World) (hq : q ≤ c) :
    Calls Tryz.prog 33 #[.agg #[.int .i64 a, .int .i64 b, .int .i64 c], .agg #[.int .i64 2, .int .i64 q]] w fun e w' => e = .returned (.bool true) ∧ Below w.heap.size w w' := by
  have dq : decide (q ≤ c) = true := by simp; omega
  go_enter Tryz.func33, Tryz.ntmps33
  go_wp2
  go_quiet (fail)
  go_wp2
  go_ret
  refine ⟨ret_bool (by simp [dq]), ?_⟩
  repeat (first | exact Below.refl _ _ | refine Below.drew ?_ | refine below_drewN ?_ _ | refine Below.alloc ?_ (by first | (simp; done) | (simp; omega)) _ | refine Below.setCell ?_ (by first | (simp; done) | (simp; omega)) _)

set_option maxHeartbeats 1000000 in
theorem knows_2false (a b c q : Int) (w : World) (hq : c < q) :
    Calls Tryz.prog 33 #[.agg #[.int .i64 a, .int .i64 b, .int .i64 c], .agg #[.int .i64 2, .int .i64 q]] w fun e w' => e = .returned (.bool false) ∧ Below w.heap.size w w' := by
  have dq : decide (q ≤ c) = false := by simp; omega
  go_enter Tryz.func33, Tryz.ntmps33
  go_wp2
  go_quiet (fail)
  go_wp2
  go_ret
  refine ⟨ret_bool (by simp [dq]), ?_⟩
  repeat (first | exact Below.refl _ _ | refine Below.drew ?_ | refine below_drewN ?_ _ | refine Below.alloc ?_ (by first | (simp; done) | (simp; omega)) _ | refine Below.setCell ?_ (by first | (simp; done) | (simp; omega)) _)

theorem knows_any (a b c p q : Int) (w : World) (h0 : 0 ≤ p) (h3 : p < 3) :
    Calls Tryz.prog 33 #[.agg #[.int .i64 a, .int .i64 b, .int .i64 c], .agg #[.int .i64 p, .int .i64 q]] w fun e w' => e = .returned (.bool (decide (q ≤ comp a b c p))) ∧ Below w.heap.size w w' := by
  have hp : p = 0 ∨ p = 1 ∨ p = 2 := by omega
  rcases hp with rfl | rfl | rfl
  · by_cases h : q ≤ a
    · exact (knows_0true a b c q w h).mono fun e w' ⟨he, hb⟩ => ⟨he.trans (ret_bool (by simp [comp, h])), hb⟩
    · exact (knows_0false a b c q w (by omega)).mono fun e w' ⟨he, hb⟩ => ⟨he.trans (ret_bool (by simp [comp, h])), hb⟩
  · by_cases h : q ≤ b
    · exact (knows_1true a b c q w h).mono fun e w' ⟨he, hb⟩ => ⟨he.trans (ret_bool (by simp [comp, h])), hb⟩
    · exact (knows_1false a b c q w (by omega)).mono fun e w' ⟨he, hb⟩ => ⟨he.trans (ret_bool (by simp [comp, h])), hb⟩
  · by_cases h : q ≤ c
    · exact (knows_2true a b c q w h).mono fun e w' ⟨he, hb⟩ => ⟨he.trans (ret_bool (by simp [comp, h])), hb⟩
    · exact (knows_2false a b c q w (by omega)).mono fun e w' ⟨he, hb⟩ => ⟨he.trans (ret_bool (by simp [comp, h])), hb⟩

set_option maxHeartbeats 1000000 in
theorem add_0 (a b c q : Int) (w : World) (hq : a < q) :
    Calls Tryz.prog 52 #[.agg #[.int .i64 a, .int .i64 b, .int .i64 c], .agg #[.int .i64 0, .int .i64 q]] w fun e w' => e = .returned (.agg #[.int .i64 q, .int .i64 b, .int .i64 c]) ∧ Below w.heap.size w w' := by
  go_enter Tryz.func52, Tryz.ntmps52
  go_wp2
  go_region
  go_wp2
  refine bodyPost_ret (v := .agg #[.int .i64 q, .int .i64 b, .int .i64 c]) (by simp [results, Tryz.results52, go_sem]) rfl ⟨rfl, ?_⟩
  repeat (first | exact Below.refl _ _ | refine Below.drew ?_ | refine below_drewN ?_ _ | refine Below.alloc ?_ (by first | (simp; done) | (simp; omega)) _ | refine Below.setCell ?_ (by first | (simp; done) | (simp; omega)) _)

set_option maxHeartbeats 1000000 in
theorem add_1 (a b c q : Int) (w : World) (hq : b < q) :
    Calls Tryz.prog 52 #[.agg #[.int .i64 a, .int .i64 b, .int .i64 c], .agg #[.int .i64 1, .int .i64 q]] w fun e w' => e = .returned (.agg #[.int .i64 a, .int .i64 q, .int .i64 c]) ∧ Below w.heap.size w w' := by
  go_enter Tryz.func52, Tryz.ntmps52
  go_wp2
  go_region
  go_wp2
  refine bodyPost_ret (v := .agg #[.int .i64 a, .int .i64 q, .int .i64 c]) (by simp [results, Tryz.results52, go_sem]) rfl ⟨rfl, ?_⟩
  repeat (first | exact Below.refl _ _ | refine Below.drew ?_ | refine below_drewN ?_ _ | refine Below.alloc ?_ (by first | (simp; done) | (simp; omega)) _ | refine Below.setCell ?_ (by first | (simp; done) | (simp; omega)) _)

set_option maxHeartbeats 1000000 in
theorem add_2 (a b c q : Int) (w : World) (hq : c < q) :
    Calls Tryz.prog 52 #[.agg #[.int .i64 a, .int .i64 b, .int .i64 c], .agg #[.int .i64 2, .int .i64 q]] w fun e w' => e = .returned (.agg #[.int .i64 a, .int .i64 b, .int .i64 q]) ∧ Below w.heap.size w w' := by
  go_enter Tryz.func52, Tryz.ntmps52
  go_wp2
  go_region
  go_wp2
  refine bodyPost_ret (v := .agg #[.int .i64 a, .int .i64 b, .int .i64 q]) (by simp [results, Tryz.results52, go_sem]) rfl ⟨rfl, ?_⟩
  repeat (first | exact Below.refl _ _ | refine Below.drew ?_ | refine below_drewN ?_ _ | refine Below.alloc ?_ (by first | (simp; done) | (simp; omega)) _ | refine Below.setCell ?_ (by first | (simp; done) | (simp; omega)) _)

def upd (p q : Int) (i : Int) (x : Int) : Int := if p = i then q else x
theorem add_any (a b c p q : Int) (w : World) (h0 : 0 ≤ p) (h3 : p < 3) (hq : comp a b c p < q) :
    Calls Tryz.prog 52 #[.agg #[.int .i64 a, .int .i64 b, .int .i64 c], .agg #[.int .i64 p, .int .i64 q]] w fun e w' => e = .returned (.agg #[.int .i64 (upd p q 0 a), .int .i64 (upd p q 1 b), .int .i64 (upd p q 2 c)]) ∧ Below w.heap.size w w' := by
  have hp : p = 0 ∨ p = 1 ∨ p = 2 := by omega
  rcases hp with rfl | rfl | rfl
  · simpa [upd] using add_0 a b c q w (by simpa [comp] using hq)
  · simpa [upd] using add_1 a b c q w (by simpa [comp] using hq)
  · simpa [upd] using add_2 a b c q w (by simpa [comp] using hq)
theorem dot_node {p q : Int} (h : dotB p q = true) : 0 ≤ p ∧ p < 3 := by
  have := of_decide_eq_true h
  omega

set_option maxHeartbeats 1000000 in
theorem greater_any (a b c x y z m n o : Int) (w : World) (h1 : (a < x ∧ m = x) ∨ (x ≤ a ∧ m = a)) (h2 : (b < y ∧ n = y) ∨ (y ≤ b ∧ n = b)) (h3 : (c < z ∧ o = z) ∨ (z ≤ c ∧ o = c)) :
    Calls Tryz.prog 24 #[.agg #[.int .i64 a, .int .i64 b, .int .i64 c], .agg #[.int .i64 x, .int .i64 y, .int .i64 z]] w fun e w' => e = .returned (.agg #[.int .i64 m, .int .i64 n, .int .i64 o]) ∧ Below w.heap.size w w' := by
  have i0 := idx0 x y z
  have i1 := idx1 x y z
  have i2 := idx2 x y z
  rcases h1 with ⟨h1, k1⟩ | ⟨h1, k1⟩ <;> rcases h2 with ⟨h2, k2⟩ | ⟨h2, k2⟩ <;> rcases h3 with ⟨h3, k3⟩ | ⟨h3, k3⟩ <;> subst k1 k2 k3
  all_goals
    go_enter Tryz.func24, Tryz.ntmps24
    go_wp2
    refine wp_loop_rounds 4 ?_
    repeat (rw [rounds_succ]; go_wp2; (try (go_region; go_wp2)))
    refine bodyPost_ret (v := .agg #[.int .i64 m, .int .i64 n, .int .i64 o]) (by simp [results, Tryz.results24, go_sem]) rfl ⟨rfl, ?_⟩
    repeat (first | exact Below.refl _ _ | refine Below.drew ?_ | refine below_drewN ?_ _ | refine Below.alloc ?_ (by first | (simp; done) | (simp; omega)) _ | refine Below.setCell ?_ (by first | (simp; done) | (simp; omega)) _)
theorem greater_max (a b c x y z : Int) (w : World) :
    Calls Tryz.prog 24 #[.agg #[.int .i64 a, .int .i64 b, .int .i64 c], .agg #[.int .i64 x, .int .i64 y, .int .i64 z]] w fun e w' => e = .returned (.agg #[.int .i64 (max a x), .int .i64 (max b y), .int .i64 (max c z)]) ∧ Below w.heap.size w w' := greater_any a b c x y z _ _ _ w (by omega) (by omega) (by omega)

set_option maxHeartbeats 1000000 in
theorem smax_any (a b c x y z m n o : Int) (w : World) (h1 : (a < x ∧ m = x) ∨ (x ≤ a ∧ m = a)) (h2 : (b < y ∧ n = y) ∨ (y ≤ b ∧ n = b)) (h3 : (c < z ∧ o = z) ∨ (z ≤ c ∧ o = c)) :
    Calls Tryz.prog 60 #[.agg #[.int .i64 a, .int .i64 b, .int .i64 c], .agg #[.int .i64 x, .int .i64 y, .int .i64 z]] w fun e w' => e = .returned (.agg #[.int .i64 m, .int .i64 n, .int .i64 o]) ∧ Below w.heap.size w w' := by
  rcases h1 with ⟨h1, k1⟩ | ⟨h1, k1⟩ <;> rcases h2 with ⟨h2, k2⟩ | ⟨h2, k2⟩ <;> rcases h3 with ⟨h3, k3⟩ | ⟨h3, k3⟩ <;> subst k1 k2 k3
  all_goals
    go_enter Tryz.func60, Tryz.ntmps60
    go_wp2
    refine wp_loop_rounds 4 ?_
    repeat (rw [rounds_succ]; go_wp2; (try (go_region; go_wp2)))
    refine bodyPost_ret (v := .agg #[.int .i64 m, .int .i64 n, .int .i64 o]) (by simp [results, Tryz.results60, go_sem]) rfl ⟨rfl, ?_⟩
    repeat (first | exact Below.refl _ _ | refine Below.drew ?_ | refine below_drewN ?_ _ | refine Below.alloc ?_ (by first | (simp; done) | (simp; omega)) _ | refine Below.setCell ?_ (by first | (simp; done) | (simp; omega)) _)
theorem smax_max (a b c x y z : Int) (w : World) :
    Calls Tryz.prog 60 #[.agg #[.int .i64 a, .int .i64 b, .int .i64 c], .agg #[.int .i64 x, .int .i64 y, .int .i64 z]] w fun e w' => e = .returned (.agg #[.int .i64 (max a x), .int .i64 (max b y), .int .i64 (max c z)]) ∧ Below w.heap.size w w' := smax_any a b c x y z _ _ _ w (by omega) (by omega) (by omega)
end Go.Proofs.YtkdbcmkmcjaenaaGreatDoor

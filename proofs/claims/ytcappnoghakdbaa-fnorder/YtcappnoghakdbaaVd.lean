/- OrderDots, of the program and of the specification. -/
import Derived.Test.YtcappnoghakdbaaRows
import Derived.WalkKit
import Derived.WalkSpells
import Derived.WalkLawsBesides
import Derived.Deep.QuietTactic
import Derived.BigQuiet
import Derived.Deep.RegionHeld3
import Derived.LoopN
import Derived.RegionTactic
import Derived.BigRegion
import Derived.Laws.StructEq
import Derived.Test.YtcappnoghakdbaaSrc
import Derived.Test.YtcappnoghakdbaaVa
namespace Go.Proofs.Ytcappnoghakdbaa
open Go.RowKit
set_option linter.unusedSimpArgs false
set_option linter.unusedVariables false

def cmpI (x y : Int) : Int := if x < y then -1 else if y < x then 1 else 0

def dotsC (x y u v : Int) : Int := if dotB x y = true ∧ dotB u v = true then 0 else 1

def dotsV (x y u v : Int) : Int := if dotB x y = true ∧ dotB u v = true then (if x < u then -1 else if u < x then 1 else cmpI y v) else 0

set_option maxHeartbeats 400000 in
theorem cmp_any (x y : Int) (w : World) :
    Calls Try.prog 24 #[.int .i64 x, .int .i64 y] w fun e w' => e = .returned (.int .i64 (cmpI x y)) ∧ w' = w := by
  have cs : x < y ∨ y < x ∨ x = y := by omega
  rcases cs with h | h | h
  case inr.inr =>
    subst h
    have HB : Hid (cmpI x x = 0) := by unfold Hid cmpI; simp
    go_enter Try.func24, Try.ntmps24
    go_wp2
    go_ret
    exact ⟨ret_int HB.out.symm, rfl⟩
  case inl =>
    have HB : Hid (cmpI x y = -1) := by unfold Hid cmpI; simp [h]
    go_enter Try.func24, Try.ntmps24
    go_wp2
    go_ret
    exact ⟨ret_int HB.out.symm, rfl⟩
  case inr.inl =>
    have HB : Hid (cmpI x y = 1) := by unfold Hid cmpI; rw [if_neg (by omega), if_pos h]
    go_enter Try.func24, Try.ntmps24
    go_wp2
    go_ret
    exact ⟨ret_int HB.out.symm, rfl⟩

set_option maxHeartbeats 400000 in
theorem impl_dotx (x y : Int) (w : World) :
    Calls Try.prog 13 #[.agg #[.int .i64 x, .int .i64 y]] w fun e w' => e = .returned (.bool (dotB x y)) ∧ w' = w.alloc (.cells #[.int .i64 x, .int .i64 y] 27) := by
  by_cases h1 : 0 ≤ x <;> by_cases h2 : x < 3 <;> by_cases h3 : 1 ≤ y <;> by_cases h4 : y ≤ 9999
  all_goals first
    | (exfalso; omega)
    | skip
  all_goals
    have HB : Hid (dotB x y = (decide (0 ≤ x ∧ x < 3 ∧ 1 ≤ y ∧ y ≤ 9999))) := rfl
    go_enter Try.func13, Try.ntmps13
    go_wp2
    go_ret
    exact ⟨ret_bool (by rw [HB.out]; simp [h1, h2, h3, h4]), rfl⟩

set_option maxHeartbeats 400000 in
theorem spec_dotx (x y : Int) (w : World) :
    Calls Try.prog 25 #[.agg #[.int .i64 x, .int .i64 y]] w fun e w' => e = .returned (.bool (dotB x y)) ∧ w' = w.alloc (.cells #[.int .i64 x, .int .i64 y] 27) := by
  by_cases h1 : 0 ≤ x <;> by_cases h2 : x < 3 <;> by_cases h3 : 1 ≤ y <;> by_cases h4 : y ≤ 9999
  all_goals first
    | (exfalso; omega)
    | skip
  all_goals
    have HB : Hid (dotB x y = (decide (0 ≤ x ∧ x < 3 ∧ 1 ≤ y ∧ y ≤ 9999))) := rfl
    go_enter Try.func25, Try.ntmps25
    go_wp2
    go_ret
    exact ⟨ret_bool (by rw [HB.out]; simp [h1, h2, h3, h4]), rfl⟩

set_option maxHeartbeats 400000 in
theorem impl_dots_bad1 (x y u v : Int) (w : World) (h1 : dotB x y = false) :
    Calls Try.prog 15 #[.agg #[.int .i64 x, .int .i64 y], .agg #[.int .i64 u, .int .i64 v]] w fun e w' => e = .returned (.tuple #[.int .i64 (0), .int .i64 1]) ∧ Below w.heap.size w w' := by
  go_enter Try.func15, Try.ntmps15
  go_wp2_with (first | (go_at_call 13; refine (impl_dotx _ _ _).mono ?_; rintro e w' ⟨rfl, rfl⟩) | (go_at_call 24; refine (cmp_any _ _ _).mono ?_; rintro e w' ⟨rfl, rfl⟩) | go_in)
  go_ret2
  refine ⟨rfl, ?_⟩
  repeat (first | exact Below.refl _ _ | refine Below.drew ?_ | refine Below.alloc ?_ (by first | (simp; done) | (simp; omega)) _ | refine Below.setCell ?_ (by first | (simp; done) | (simp; omega)) _)

set_option maxHeartbeats 400000 in
theorem impl_dots_bad2 (x y u v : Int) (w : World) (h1 : dotB x y = true) (h2 : dotB u v = false) :
    Calls Try.prog 15 #[.agg #[.int .i64 x, .int .i64 y], .agg #[.int .i64 u, .int .i64 v]] w fun e w' => e = .returned (.tuple #[.int .i64 (0), .int .i64 1]) ∧ Below w.heap.size w w' := by
  go_enter Try.func15, Try.ntmps15
  go_wp2_with (first | (go_at_call 13; refine (impl_dotx _ _ _).mono ?_; rintro e w' ⟨rfl, rfl⟩) | (go_at_call 24; refine (cmp_any _ _ _).mono ?_; rintro e w' ⟨rfl, rfl⟩) | go_in)
  go_ret2
  refine ⟨rfl, ?_⟩
  repeat (first | exact Below.refl _ _ | refine Below.drew ?_ | refine Below.alloc ?_ (by first | (simp; done) | (simp; omega)) _ | refine Below.setCell ?_ (by first | (simp; done) | (simp; omega)) _)

set_option maxHeartbeats 400000 in
theorem impl_dots_lt (x y u v : Int) (w : World) (h1 : dotB x y = true) (h2 : dotB u v = true) (h3 : x < u) :
    Calls Try.prog 15 #[.agg #[.int .i64 x, .int .i64 y], .agg #[.int .i64 u, .int .i64 v]] w fun e w' => e = .returned (.tuple #[.int .i64 (-1), .int .i64 0]) ∧ Below w.heap.size w w' := by
  have hne : (x == u) = false := beq_eq_false_iff_ne.2 (by omega)
  have HC : Hid (cmpI x u = -1) := by unfold Hid cmpI; simp [h3]
  go_enter Try.func15, Try.ntmps15
  go_wp2_with (first | (go_at_call 13; refine (impl_dotx _ _ _).mono ?_; rintro e w' ⟨rfl, rfl⟩) | (go_at_call 24; refine (cmp_any _ _ _).mono ?_; rintro e w' ⟨rfl, rfl⟩) | go_in)
  go_ret2
  refine ⟨ret_ints HC.out rfl, ?_⟩
  repeat (first | exact Below.refl _ _ | refine Below.drew ?_ | refine Below.alloc ?_ (by first | (simp; done) | (simp; omega)) _ | refine Below.setCell ?_ (by first | (simp; done) | (simp; omega)) _)

set_option maxHeartbeats 400000 in
theorem impl_dots_gt (x y u v : Int) (w : World) (h1 : dotB x y = true) (h2 : dotB u v = true) (h3 : u < x) :
    Calls Try.prog 15 #[.agg #[.int .i64 x, .int .i64 y], .agg #[.int .i64 u, .int .i64 v]] w fun e w' => e = .returned (.tuple #[.int .i64 (1), .int .i64 0]) ∧ Below w.heap.size w w' := by
  have hne : (x == u) = false := beq_eq_false_iff_ne.2 (by omega)
  have HC : Hid (cmpI x u = 1) := by unfold Hid cmpI; rw [if_neg (by omega), if_pos h3]
  go_enter Try.func15, Try.ntmps15
  go_wp2_with (first | (go_at_call 13; refine (impl_dotx _ _ _).mono ?_; rintro e w' ⟨rfl, rfl⟩) | (go_at_call 24; refine (cmp_any _ _ _).mono ?_; rintro e w' ⟨rfl, rfl⟩) | go_in)
  go_ret2
  refine ⟨ret_ints HC.out rfl, ?_⟩
  repeat (first | exact Below.refl _ _ | refine Below.drew ?_ | refine Below.alloc ?_ (by first | (simp; done) | (simp; omega)) _ | refine Below.setCell ?_ (by first | (simp; done) | (simp; omega)) _)

set_option maxHeartbeats 400000 in
theorem impl_dots_eq (x y v : Int) (w : World) (h1 : dotB x y = true) (h2 : dotB x v = true) :
    Calls Try.prog 15 #[.agg #[.int .i64 x, .int .i64 y], .agg #[.int .i64 x, .int .i64 v]] w fun e w' => e = .returned (.tuple #[.int .i64 (cmpI y v), .int .i64 0]) ∧ Below w.heap.size w w' := by
  go_enter Try.func15, Try.ntmps15
  go_wp2_with (first | (go_at_call 13; refine (impl_dotx _ _ _).mono ?_; rintro e w' ⟨rfl, rfl⟩) | (go_at_call 24; refine (cmp_any _ _ _).mono ?_; rintro e w' ⟨rfl, rfl⟩) | go_in)
  go_ret2
  refine ⟨rfl, ?_⟩
  repeat (first | exact Below.refl _ _ | refine Below.drew ?_ | refine Below.alloc ?_ (by first | (simp; done) | (simp; omega)) _ | refine Below.setCell ?_ (by first | (simp; done) | (simp; omega)) _)

theorem impl_dots (x y u v : Int) (w : World) :
    Calls Try.prog 15 #[.agg #[.int .i64 x, .int .i64 y], .agg #[.int .i64 u, .int .i64 v]] w fun e w' => e = .returned (.tuple #[.int .i64 (dotsV x y u v), .int .i64 (dotsC x y u v)]) ∧ Below w.heap.size w w' := by
  by_cases h1 : dotB x y = true
  · by_cases h2 : dotB u v = true
    · have cs : x < u ∨ u < x ∨ x = u := by omega
      rcases cs with h3 | h3 | h3
      · exact (impl_dots_lt x y u v w h1 h2 h3).mono fun e w' ⟨he, hb⟩ => ⟨he.trans (ret_ints (by simp [dotsV, h1, h2, h3]) (by simp [dotsC, h1, h2])), hb⟩
      · have hn : ¬ x < u := by omega
        exact (impl_dots_gt x y u v w h1 h2 h3).mono fun e w' ⟨he, hb⟩ => ⟨he.trans (ret_ints (by simp [dotsV, h1, h2, h3, hn]) (by simp [dotsC, h1, h2])), hb⟩
      · subst h3
        exact (impl_dots_eq x y v w h1 h2).mono fun e w' ⟨he, hb⟩ => ⟨he.trans (ret_ints (by simp [dotsV, h1, h2]) (by simp [dotsC, h1, h2])), hb⟩
    · have h2' : dotB u v = false := by simpa using h2
      exact (impl_dots_bad2 x y u v w h1 h2').mono fun e w' ⟨he, hb⟩ => ⟨he.trans (ret_ints (by simp [dotsV, h2']) (by simp [dotsC, h2'])), hb⟩
  · have h1' : dotB x y = false := by simpa using h1
    exact (impl_dots_bad1 x y u v w h1').mono fun e w' ⟨he, hb⟩ => ⟨he.trans (ret_ints (by simp [dotsV, h1']) (by simp [dotsC, h1'])), hb⟩

set_option maxHeartbeats 400000 in
theorem spec_dots_bad1 (x y u v : Int) (w : World) (h1 : dotB x y = false) :
    Calls Try.prog 16 #[.agg #[.int .i64 x, .int .i64 y], .agg #[.int .i64 u, .int .i64 v]] w fun e w' => e = .returned (.tuple #[.int .i64 (0), .int .i64 1]) ∧ Below w.heap.size w w' := by
  go_enter Try.func16, Try.ntmps16
  go_wp2_with (first | (go_at_call 25; refine (spec_dotx _ _ _).mono ?_; rintro e w' ⟨rfl, rfl⟩) | go_in)
  go_ret2
  refine ⟨rfl, ?_⟩
  repeat (first | exact Below.refl _ _ | refine Below.drew ?_ | refine Below.alloc ?_ (by first | (simp; done) | (simp; omega)) _ | refine Below.setCell ?_ (by first | (simp; done) | (simp; omega)) _)

set_option maxHeartbeats 400000 in
theorem spec_dots_bad2 (x y u v : Int) (w : World) (h1 : dotB x y = true) (h2 : dotB u v = false) :
    Calls Try.prog 16 #[.agg #[.int .i64 x, .int .i64 y], .agg #[.int .i64 u, .int .i64 v]] w fun e w' => e = .returned (.tuple #[.int .i64 (0), .int .i64 1]) ∧ Below w.heap.size w w' := by
  go_enter Try.func16, Try.ntmps16
  go_wp2_with (first | (go_at_call 25; refine (spec_dotx _ _ _).mono ?_; rintro e w' ⟨rfl, rfl⟩) | go_in)
  go_ret2
  refine ⟨rfl, ?_⟩
  repeat (first | exact Below.refl _ _ | refine Below.drew ?_ | refine Below.alloc ?_ (by first | (simp; done) | (simp; omega)) _ | refine Below.setCell ?_ (by first | (simp; done) | (simp; omega)) _)

set_option maxHeartbeats 400000 in
theorem spec_dots_lt (x y u v : Int) (w : World) (h1 : dotB x y = true) (h2 : dotB u v = true) (h3 : x < u) :
    Calls Try.prog 16 #[.agg #[.int .i64 x, .int .i64 y], .agg #[.int .i64 u, .int .i64 v]] w fun e w' => e = .returned (.tuple #[.int .i64 (-1), .int .i64 0]) ∧ Below w.heap.size w w' := by
  have hne : (x == u) = false := beq_eq_false_iff_ne.2 (by omega)
  go_enter Try.func16, Try.ntmps16
  go_wp2_with (first | (go_at_call 25; refine (spec_dotx _ _ _).mono ?_; rintro e w' ⟨rfl, rfl⟩) | go_in)
  go_ret2
  refine ⟨rfl, ?_⟩
  repeat (first | exact Below.refl _ _ | refine Below.drew ?_ | refine Below.alloc ?_ (by first | (simp; done) | (simp; omega)) _ | refine Below.setCell ?_ (by first | (simp; done) | (simp; omega)) _)

set_option maxHeartbeats 400000 in
theorem spec_dots_gt (x y u v : Int) (w : World) (h1 : dotB x y = true) (h2 : dotB u v = true) (h3 : u < x) :
    Calls Try.prog 16 #[.agg #[.int .i64 x, .int .i64 y], .agg #[.int .i64 u, .int .i64 v]] w fun e w' => e = .returned (.tuple #[.int .i64 (1), .int .i64 0]) ∧ Below w.heap.size w w' := by
  have hne : (x == u) = false := beq_eq_false_iff_ne.2 (by omega)
  go_enter Try.func16, Try.ntmps16
  go_wp2_with (first | (go_at_call 25; refine (spec_dotx _ _ _).mono ?_; rintro e w' ⟨rfl, rfl⟩) | go_in)
  go_ret2
  refine ⟨rfl, ?_⟩
  repeat (first | exact Below.refl _ _ | refine Below.drew ?_ | refine Below.alloc ?_ (by first | (simp; done) | (simp; omega)) _ | refine Below.setCell ?_ (by first | (simp; done) | (simp; omega)) _)

set_option maxHeartbeats 400000 in
theorem spec_dots_eqlt (x y v : Int) (w : World) (h1 : dotB x y = true) (h2 : dotB x v = true) (h3 : y < v) :
    Calls Try.prog 16 #[.agg #[.int .i64 x, .int .i64 y], .agg #[.int .i64 x, .int .i64 v]] w fun e w' => e = .returned (.tuple #[.int .i64 (-1), .int .i64 0]) ∧ Below w.heap.size w w' := by
  have hne : (y == v) = false := beq_eq_false_iff_ne.2 (by omega)
  go_enter Try.func16, Try.ntmps16
  go_wp2_with (first | (go_at_call 25; refine (spec_dotx _ _ _).mono ?_; rintro e w' ⟨rfl, rfl⟩) | go_in)
  go_ret2
  refine ⟨rfl, ?_⟩
  repeat (first | exact Below.refl _ _ | refine Below.drew ?_ | refine Below.alloc ?_ (by first | (simp; done) | (simp; omega)) _ | refine Below.setCell ?_ (by first | (simp; done) | (simp; omega)) _)

set_option maxHeartbeats 400000 in
theorem spec_dots_eqgt (x y v : Int) (w : World) (h1 : dotB x y = true) (h2 : dotB x v = true) (h3 : v < y) :
    Calls Try.prog 16 #[.agg #[.int .i64 x, .int .i64 y], .agg #[.int .i64 x, .int .i64 v]] w fun e w' => e = .returned (.tuple #[.int .i64 (1), .int .i64 0]) ∧ Below w.heap.size w w' := by
  have hne : (y == v) = false := beq_eq_false_iff_ne.2 (by omega)
  go_enter Try.func16, Try.ntmps16
  go_wp2_with (first | (go_at_call 25; refine (spec_dotx _ _ _).mono ?_; rintro e w' ⟨rfl, rfl⟩) | go_in)
  go_ret2
  refine ⟨rfl, ?_⟩
  repeat (first | exact Below.refl _ _ | refine Below.drew ?_ | refine Below.alloc ?_ (by first | (simp; done) | (simp; omega)) _ | refine Below.setCell ?_ (by first | (simp; done) | (simp; omega)) _)

set_option maxHeartbeats 400000 in
theorem spec_dots_same (x y : Int) (w : World) (h1 : dotB x y = true) :
    Calls Try.prog 16 #[.agg #[.int .i64 x, .int .i64 y], .agg #[.int .i64 x, .int .i64 y]] w fun e w' => e = .returned (.tuple #[.int .i64 (0), .int .i64 0]) ∧ Below w.heap.size w w' := by
  go_enter Try.func16, Try.ntmps16
  go_wp2_with (first | (go_at_call 25; refine (spec_dotx _ _ _).mono ?_; rintro e w' ⟨rfl, rfl⟩) | go_in)
  go_ret2
  refine ⟨rfl, ?_⟩
  repeat (first | exact Below.refl _ _ | refine Below.drew ?_ | refine Below.alloc ?_ (by first | (simp; done) | (simp; omega)) _ | refine Below.setCell ?_ (by first | (simp; done) | (simp; omega)) _)

theorem spec_dots (x y u v : Int) (w : World) :
    Calls Try.prog 16 #[.agg #[.int .i64 x, .int .i64 y], .agg #[.int .i64 u, .int .i64 v]] w fun e w' => e = .returned (.tuple #[.int .i64 (dotsV x y u v), .int .i64 (dotsC x y u v)]) ∧ Below w.heap.size w w' := by
  by_cases h1 : dotB x y = true
  · by_cases h2 : dotB u v = true
    · have cs : x < u ∨ u < x ∨ x = u := by omega
      rcases cs with h3 | h3 | h3
      · exact (spec_dots_lt x y u v w h1 h2 h3).mono fun e w' ⟨he, hb⟩ => ⟨he.trans (ret_ints (by simp [dotsV, h1, h2, h3]) (by simp [dotsC, h1, h2])), hb⟩
      · have hn : ¬ x < u := by omega
        exact (spec_dots_gt x y u v w h1 h2 h3).mono fun e w' ⟨he, hb⟩ => ⟨he.trans (ret_ints (by simp [dotsV, h1, h2, h3, hn]) (by simp [dotsC, h1, h2])), hb⟩
      · subst h3
        have cs : y < v ∨ v < y ∨ y = v := by omega
        rcases cs with h3 | h3 | h3
        · exact (spec_dots_eqlt x y v w h1 h2 h3).mono fun e w' ⟨he, hb⟩ => ⟨he.trans (ret_ints (by simp [dotsV, cmpI, h1, h2, h3]) (by simp [dotsC, h1, h2])), hb⟩
        · have hn : ¬ y < v := by omega
          exact (spec_dots_eqgt x y v w h1 h2 h3).mono fun e w' ⟨he, hb⟩ => ⟨he.trans (ret_ints (by simp [dotsV, cmpI, h1, h2, h3, hn]) (by simp [dotsC, h1, h2])), hb⟩
        · subst h3
          exact (spec_dots_same x y w h1).mono fun e w' ⟨he, hb⟩ => ⟨he.trans (ret_ints (by simp [dotsV, cmpI, h1]) (by simp [dotsC, h1])), hb⟩
    · have h2' : dotB u v = false := by simpa using h2
      exact (spec_dots_bad2 x y u v w h1 h2').mono fun e w' ⟨he, hb⟩ => ⟨he.trans (ret_ints (by simp [dotsV, h2']) (by simp [dotsC, h2'])), hb⟩
  · have h1' : dotB x y = false := by simpa using h1
    exact (spec_dots_bad1 x y u v w h1').mono fun e w' ⟨he, hb⟩ => ⟨he.trans (ret_ints (by simp [dotsV, h1']) (by simp [dotsC, h1'])), hb⟩
end Go.Proofs.Ytcappnoghakdbaa

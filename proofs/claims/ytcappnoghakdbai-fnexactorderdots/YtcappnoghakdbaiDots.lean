/- OrderDots of the program and of the specification answer alike: by node, then by number; ErrBad of what is no event. -/
import Derived.Test.YtcappnoghakdbaiRows
import Derived.WalkKit
import Derived.WalkSpells
import Derived.WalkLawsBesides
import Derived.Deep.QuietTactic
import Derived.BigQuiet
import Derived.Deep.RegionHeld3
namespace Go.Proofs.Ytcappnoghakdbai
open Go.RowKit

def dotB (x y : Int) : Bool := decide (0 ≤ x ∧ x < 3 ∧ 1 ≤ y ∧ y ≤ 9999)
def cmpI (x y : Int) : Int := if x < y then -1 else if y < x then 1 else 0
def ordC (x y u v : Int) : Int := if dotB x y = true ∧ dotB u v = true then 0 else 1
def ordV (x y u v : Int) : Int := if dotB x y = true ∧ dotB u v = true then (if x < u then -1 else if u < x then 1 else cmpI y v) else 0
theorem ret_bool {a b : Bool} (h : a = b) : Ending.returned (.bool a) = .returned (.bool b) := by rw [h]
theorem ret_int {k : IntKind} {a b : Int} (h : a = b) : Ending.returned (.int k a) = .returned (.int k b) := by rw [h]
theorem ret_ints {a b c d : Int} (h : a = b) (k : c = d) : Ending.returned (.tuple #[.int .i64 a, .int .i64 c]) = .returned (.tuple #[.int .i64 b, .int .i64 d]) := by rw [h, k]
theorem ret_bint {a b : Bool} {c d : Int} (h : a = b) (k : c = d) : Ending.returned (.tuple #[.bool a, .int .i64 c]) = .returned (.tuple #[.bool b, .int .i64 d]) := by rw [h, k]
theorem ret_vint {a b c a' b' c' : Int} {r r' : Int} (h : a = a') (k : b = b') (l : c = c') (m : r = r') : Ending.returned (.tuple #[.agg #[.int .i64 a, .int .i64 b, .int .i64 c], .int .i64 r]) = .returned (.tuple #[.agg #[.int .i64 a', .int .i64 b', .int .i64 c'], .int .i64 r']) := by rw [h, k, l, m]
theorem ret_v {a b c a' b' c' : Int} (h : a = a') (k : b = b') (l : c = c') : Ending.returned (.agg #[.int .i64 a, .int .i64 b, .int .i64 c]) = .returned (.agg #[.int .i64 a', .int .i64 b', .int .i64 c']) := by rw [h, k, l]
theorem bcell {W w1 : World} (hb : Below W.heap.size W w1) : (∀ b o, b < W.heap.size → w1.cell? ⟨b, o, none⟩ = W.cell? ⟨b, o, none⟩) ∧ (∀ b o, b < W.heap.size → w1.frozen? ⟨b, o, none⟩ = W.frozen? ⟨b, o, none⟩) :=
  ⟨fun b o h => hb.cell (p := ⟨b, o, none⟩) h, fun b o h => hb.frozen (p := ⟨b, o, none⟩) h⟩
theorem cell_next {W w1 : World} (hb : Below W.heap.size W w1) {b o : Nat} {v : Value} (h : W.cell? ⟨b, o, none⟩ = some v) (hs : b < W.heap.size) : w1.cell? ⟨b, o, none⟩ = some v := by
  rw [hb.cell (p := ⟨b, o, none⟩) hs]; exact h

set_option maxHeartbeats 400000 in
theorem toDot_any (x y : Int) (w : World) :
    Calls Try.prog 5 #[.agg #[.int .i64 x, .int .i64 y]] w fun e w' => e = .returned (.agg #[.int .i64 x, .int .i64 y]) ∧ Below w.heap.size w w' := by
  go_enter Try.func5, Try.ntmps5
  go_wp2
  refine bodyPost_ret (v := .agg #[.int .i64 x, .int .i64 y]) (by simp [results, Try.results5, go_sem]) rfl ⟨rfl, ?_⟩
  repeat (first | exact Below.refl _ _ | refine Below.drew ?_ | refine Below.alloc ?_ (by first | (simp; done) | (simp; omega)) _ | refine Below.setCell ?_ (by first | (simp; done) | (simp; omega)) _)

set_option maxHeartbeats 400000 in
theorem cmp_any (x y : Int) (w : World) :
    Calls Try.prog 10 #[.int .i64 x, .int .i64 y] w fun e w' => e = .returned (.int .i64 (cmpI x y)) ∧ w' = w := by
  have cs : x < y ∨ y < x ∨ x = y := by omega
  rcases cs with h | h | h
  case inr.inr =>
    subst h
    have HB : Hid (cmpI x x = 0) := by unfold Hid cmpI; simp
    go_enter Try.func10, Try.ntmps10
    go_wp2
    go_ret
    exact ⟨ret_int HB.out.symm, rfl⟩
  case inl =>
    have HB : Hid (cmpI x y = -1) := by unfold Hid cmpI; simp [h]
    go_enter Try.func10, Try.ntmps10
    go_wp2
    go_ret
    exact ⟨ret_int HB.out.symm, rfl⟩
  case inr.inl =>
    have HB : Hid (cmpI x y = 1) := by unfold Hid cmpI; rw [if_neg (by omega), if_pos h]
    go_enter Try.func10, Try.ntmps10
    go_wp2
    go_ret
    exact ⟨ret_int HB.out.symm, rfl⟩


set_option maxHeartbeats 400000 in
theorem impl_dot (x y : Int) (w : World) :
    Calls Try.prog 9 #[.agg #[.int .i64 x, .int .i64 y]] w fun e w' => e = .returned (.bool (dotB x y)) ∧ w' = w.alloc (.cells #[.int .i64 x, .int .i64 y] 26) := by
  by_cases h1 : 0 ≤ x <;> by_cases h2 : x < 3 <;> by_cases h3 : 1 ≤ y <;> by_cases h4 : y ≤ 9999
  all_goals first
    | (exfalso; omega)
    | skip
  all_goals
    have HB : Hid (dotB x y = (decide (0 ≤ x ∧ x < 3 ∧ 1 ≤ y ∧ y ≤ 9999))) := rfl
    go_enter Try.func9, Try.ntmps9
    go_wp2
    go_ret
    exact ⟨ret_bool (by rw [HB.out]; simp [h1, h2, h3, h4]), rfl⟩


set_option maxHeartbeats 400000 in
theorem spec_dot (x y : Int) (w : World) :
    Calls Try.prog 7 #[.agg #[.int .i64 x, .int .i64 y]] w fun e w' => e = .returned (.bool (dotB x y)) ∧ w' = w.alloc (.cells #[.int .i64 x, .int .i64 y] 26) := by
  by_cases h1 : 0 ≤ x <;> by_cases h2 : x < 3 <;> by_cases h3 : 1 ≤ y <;> by_cases h4 : y ≤ 9999
  all_goals first
    | (exfalso; omega)
    | skip
  all_goals
    have HB : Hid (dotB x y = (decide (0 ≤ x ∧ x < 3 ∧ 1 ≤ y ∧ y ≤ 9999))) := rfl
    go_enter Try.func7, Try.ntmps7
    go_wp2
    go_ret
    exact ⟨ret_bool (by rw [HB.out]; simp [h1, h2, h3, h4]), rfl⟩


set_option maxHeartbeats 400000 in
theorem impl_order_bad1 (x y u v : Int) (w : World) (h1 : dotB x y = false) :
    Calls Try.prog 6 #[.agg #[.int .i64 x, .int .i64 y], .agg #[.int .i64 u, .int .i64 v]] w fun e w' => e = .returned (.tuple #[.int .i64 (0), .int .i64 1]) ∧ Below w.heap.size w w' := by
  go_enter Try.func6, Try.ntmps6
  go_wp2_with (first | (go_at_call 9; refine (impl_dot _ _ _).mono ?_; rintro e w' ⟨rfl, rfl⟩) | (go_at_call 10; refine (cmp_any _ _ _).mono ?_; rintro e w' ⟨rfl, rfl⟩) | go_in)
  go_ret2
  refine ⟨rfl, ?_⟩
  repeat (first | exact Below.refl _ _ | refine Below.drew ?_ | refine Below.alloc ?_ (by first | (simp; done) | (simp; omega)) _ | refine Below.setCell ?_ (by first | (simp; done) | (simp; omega)) _)


set_option maxHeartbeats 400000 in
theorem impl_order_bad2 (x y u v : Int) (w : World) (h1 : dotB x y = true) (h2 : dotB u v = false) :
    Calls Try.prog 6 #[.agg #[.int .i64 x, .int .i64 y], .agg #[.int .i64 u, .int .i64 v]] w fun e w' => e = .returned (.tuple #[.int .i64 (0), .int .i64 1]) ∧ Below w.heap.size w w' := by
  go_enter Try.func6, Try.ntmps6
  go_wp2_with (first | (go_at_call 9; refine (impl_dot _ _ _).mono ?_; rintro e w' ⟨rfl, rfl⟩) | (go_at_call 10; refine (cmp_any _ _ _).mono ?_; rintro e w' ⟨rfl, rfl⟩) | go_in)
  go_ret2
  refine ⟨rfl, ?_⟩
  repeat (first | exact Below.refl _ _ | refine Below.drew ?_ | refine Below.alloc ?_ (by first | (simp; done) | (simp; omega)) _ | refine Below.setCell ?_ (by first | (simp; done) | (simp; omega)) _)


set_option maxHeartbeats 400000 in
theorem impl_order_lt (x y u v : Int) (w : World) (h1 : dotB x y = true) (h2 : dotB u v = true) (h3 : x < u) :
    Calls Try.prog 6 #[.agg #[.int .i64 x, .int .i64 y], .agg #[.int .i64 u, .int .i64 v]] w fun e w' => e = .returned (.tuple #[.int .i64 (-1), .int .i64 0]) ∧ Below w.heap.size w w' := by
  have hne : (x == u) = false := beq_eq_false_iff_ne.2 (by omega)
  have HC : Hid (cmpI x u = -1) := by unfold Hid cmpI; simp [h3]
  go_enter Try.func6, Try.ntmps6
  go_wp2_with (first | (go_at_call 9; refine (impl_dot _ _ _).mono ?_; rintro e w' ⟨rfl, rfl⟩) | (go_at_call 10; refine (cmp_any _ _ _).mono ?_; rintro e w' ⟨rfl, rfl⟩) | go_in)
  go_ret2
  refine ⟨ret_ints HC.out rfl, ?_⟩
  repeat (first | exact Below.refl _ _ | refine Below.drew ?_ | refine Below.alloc ?_ (by first | (simp; done) | (simp; omega)) _ | refine Below.setCell ?_ (by first | (simp; done) | (simp; omega)) _)


set_option maxHeartbeats 400000 in
theorem impl_order_gt (x y u v : Int) (w : World) (h1 : dotB x y = true) (h2 : dotB u v = true) (h3 : u < x) :
    Calls Try.prog 6 #[.agg #[.int .i64 x, .int .i64 y], .agg #[.int .i64 u, .int .i64 v]] w fun e w' => e = .returned (.tuple #[.int .i64 (1), .int .i64 0]) ∧ Below w.heap.size w w' := by
  have hne : (x == u) = false := beq_eq_false_iff_ne.2 (by omega)
  have HC : Hid (cmpI x u = 1) := by unfold Hid cmpI; rw [if_neg (by omega), if_pos h3]
  go_enter Try.func6, Try.ntmps6
  go_wp2_with (first | (go_at_call 9; refine (impl_dot _ _ _).mono ?_; rintro e w' ⟨rfl, rfl⟩) | (go_at_call 10; refine (cmp_any _ _ _).mono ?_; rintro e w' ⟨rfl, rfl⟩) | go_in)
  go_ret2
  refine ⟨ret_ints HC.out rfl, ?_⟩
  repeat (first | exact Below.refl _ _ | refine Below.drew ?_ | refine Below.alloc ?_ (by first | (simp; done) | (simp; omega)) _ | refine Below.setCell ?_ (by first | (simp; done) | (simp; omega)) _)


set_option maxHeartbeats 400000 in
theorem impl_order_eq (x y v : Int) (w : World) (h1 : dotB x y = true) (h2 : dotB x v = true) :
    Calls Try.prog 6 #[.agg #[.int .i64 x, .int .i64 y], .agg #[.int .i64 x, .int .i64 v]] w fun e w' => e = .returned (.tuple #[.int .i64 (cmpI y v), .int .i64 0]) ∧ Below w.heap.size w w' := by
  go_enter Try.func6, Try.ntmps6
  go_wp2_with (first | (go_at_call 9; refine (impl_dot _ _ _).mono ?_; rintro e w' ⟨rfl, rfl⟩) | (go_at_call 10; refine (cmp_any _ _ _).mono ?_; rintro e w' ⟨rfl, rfl⟩) | go_in)
  go_ret2
  refine ⟨rfl, ?_⟩
  repeat (first | exact Below.refl _ _ | refine Below.drew ?_ | refine Below.alloc ?_ (by first | (simp; done) | (simp; omega)) _ | refine Below.setCell ?_ (by first | (simp; done) | (simp; omega)) _)


theorem impl_order (x y u v : Int) (w : World) :
    Calls Try.prog 6 #[.agg #[.int .i64 x, .int .i64 y], .agg #[.int .i64 u, .int .i64 v]] w fun e w' => e = .returned (.tuple #[.int .i64 (ordV x y u v), .int .i64 (ordC x y u v)]) ∧ Below w.heap.size w w' := by
  by_cases h1 : dotB x y = true
  · by_cases h2 : dotB u v = true
    · have cs : x < u ∨ u < x ∨ x = u := by omega
      rcases cs with h3 | h3 | h3
      · exact (impl_order_lt x y u v w h1 h2 h3).mono fun e w' ⟨he, hb⟩ => ⟨he.trans (ret_ints (by simp [ordV, h1, h2, h3]) (by simp [ordC, h1, h2])), hb⟩
      · have hn : ¬ x < u := by omega
        exact (impl_order_gt x y u v w h1 h2 h3).mono fun e w' ⟨he, hb⟩ => ⟨he.trans (ret_ints (by simp [ordV, h1, h2, h3, hn]) (by simp [ordC, h1, h2])), hb⟩
      · subst h3
        exact (impl_order_eq x y v w h1 h2).mono fun e w' ⟨he, hb⟩ => ⟨he.trans (ret_ints (by simp [ordV, h1, h2]) (by simp [ordC, h1, h2])), hb⟩
    · have h2' : dotB u v = false := by simpa using h2
      exact (impl_order_bad2 x y u v w h1 h2').mono fun e w' ⟨he, hb⟩ => ⟨he.trans (ret_ints (by simp [ordV, h2']) (by simp [ordC, h2'])), hb⟩
  · have h1' : dotB x y = false := by simpa using h1
    exact (impl_order_bad1 x y u v w h1').mono fun e w' ⟨he, hb⟩ => ⟨he.trans (ret_ints (by simp [ordV, h1']) (by simp [ordC, h1'])), hb⟩


set_option maxHeartbeats 400000 in
theorem spec_order_bad1 (x y u v : Int) (w : World) (h1 : dotB x y = false) :
    Calls Try.prog 4 #[.agg #[.int .i64 x, .int .i64 y], .agg #[.int .i64 u, .int .i64 v]] w fun e w' => e = .returned (.tuple #[.int .i64 (0), .int .i64 1]) ∧ Below w.heap.size w w' := by
  go_enter Try.func4, Try.ntmps4
  go_wp2_with (first | (go_at_call 7; refine (spec_dot _ _ _).mono ?_; rintro e w' ⟨rfl, rfl⟩) | go_in)
  go_ret2
  refine ⟨rfl, ?_⟩
  repeat (first | exact Below.refl _ _ | refine Below.drew ?_ | refine Below.alloc ?_ (by first | (simp; done) | (simp; omega)) _ | refine Below.setCell ?_ (by first | (simp; done) | (simp; omega)) _)


set_option maxHeartbeats 400000 in
theorem spec_order_bad2 (x y u v : Int) (w : World) (h1 : dotB x y = true) (h2 : dotB u v = false) :
    Calls Try.prog 4 #[.agg #[.int .i64 x, .int .i64 y], .agg #[.int .i64 u, .int .i64 v]] w fun e w' => e = .returned (.tuple #[.int .i64 (0), .int .i64 1]) ∧ Below w.heap.size w w' := by
  go_enter Try.func4, Try.ntmps4
  go_wp2_with (first | (go_at_call 7; refine (spec_dot _ _ _).mono ?_; rintro e w' ⟨rfl, rfl⟩) | go_in)
  go_ret2
  refine ⟨rfl, ?_⟩
  repeat (first | exact Below.refl _ _ | refine Below.drew ?_ | refine Below.alloc ?_ (by first | (simp; done) | (simp; omega)) _ | refine Below.setCell ?_ (by first | (simp; done) | (simp; omega)) _)


set_option maxHeartbeats 400000 in
theorem spec_order_lt (x y u v : Int) (w : World) (h1 : dotB x y = true) (h2 : dotB u v = true) (h3 : x < u) :
    Calls Try.prog 4 #[.agg #[.int .i64 x, .int .i64 y], .agg #[.int .i64 u, .int .i64 v]] w fun e w' => e = .returned (.tuple #[.int .i64 (-1), .int .i64 0]) ∧ Below w.heap.size w w' := by
  have hne : (x == u) = false := beq_eq_false_iff_ne.2 (by omega)
  go_enter Try.func4, Try.ntmps4
  go_wp2_with (first | (go_at_call 7; refine (spec_dot _ _ _).mono ?_; rintro e w' ⟨rfl, rfl⟩) | go_in)
  go_ret2
  refine ⟨rfl, ?_⟩
  repeat (first | exact Below.refl _ _ | refine Below.drew ?_ | refine Below.alloc ?_ (by first | (simp; done) | (simp; omega)) _ | refine Below.setCell ?_ (by first | (simp; done) | (simp; omega)) _)


set_option maxHeartbeats 400000 in
theorem spec_order_gt (x y u v : Int) (w : World) (h1 : dotB x y = true) (h2 : dotB u v = true) (h3 : u < x) :
    Calls Try.prog 4 #[.agg #[.int .i64 x, .int .i64 y], .agg #[.int .i64 u, .int .i64 v]] w fun e w' => e = .returned (.tuple #[.int .i64 (1), .int .i64 0]) ∧ Below w.heap.size w w' := by
  have hne : (x == u) = false := beq_eq_false_iff_ne.2 (by omega)
  go_enter Try.func4, Try.ntmps4
  go_wp2_with (first | (go_at_call 7; refine (spec_dot _ _ _).mono ?_; rintro e w' ⟨rfl, rfl⟩) | go_in)
  go_ret2
  refine ⟨rfl, ?_⟩
  repeat (first | exact Below.refl _ _ | refine Below.drew ?_ | refine Below.alloc ?_ (by first | (simp; done) | (simp; omega)) _ | refine Below.setCell ?_ (by first | (simp; done) | (simp; omega)) _)


set_option maxHeartbeats 400000 in
theorem spec_order_eqlt (x y v : Int) (w : World) (h1 : dotB x y = true) (h2 : dotB x v = true) (h3 : y < v) :
    Calls Try.prog 4 #[.agg #[.int .i64 x, .int .i64 y], .agg #[.int .i64 x, .int .i64 v]] w fun e w' => e = .returned (.tuple #[.int .i64 (-1), .int .i64 0]) ∧ Below w.heap.size w w' := by
  have hne : (y == v) = false := beq_eq_false_iff_ne.2 (by omega)
  go_enter Try.func4, Try.ntmps4
  go_wp2_with (first | (go_at_call 7; refine (spec_dot _ _ _).mono ?_; rintro e w' ⟨rfl, rfl⟩) | go_in)
  go_ret2
  refine ⟨rfl, ?_⟩
  repeat (first | exact Below.refl _ _ | refine Below.drew ?_ | refine Below.alloc ?_ (by first | (simp; done) | (simp; omega)) _ | refine Below.setCell ?_ (by first | (simp; done) | (simp; omega)) _)


set_option maxHeartbeats 400000 in
theorem spec_order_eqgt (x y v : Int) (w : World) (h1 : dotB x y = true) (h2 : dotB x v = true) (h3 : v < y) :
    Calls Try.prog 4 #[.agg #[.int .i64 x, .int .i64 y], .agg #[.int .i64 x, .int .i64 v]] w fun e w' => e = .returned (.tuple #[.int .i64 (1), .int .i64 0]) ∧ Below w.heap.size w w' := by
  have hne : (y == v) = false := beq_eq_false_iff_ne.2 (by omega)
  go_enter Try.func4, Try.ntmps4
  go_wp2_with (first | (go_at_call 7; refine (spec_dot _ _ _).mono ?_; rintro e w' ⟨rfl, rfl⟩) | go_in)
  go_ret2
  refine ⟨rfl, ?_⟩
  repeat (first | exact Below.refl _ _ | refine Below.drew ?_ | refine Below.alloc ?_ (by first | (simp; done) | (simp; omega)) _ | refine Below.setCell ?_ (by first | (simp; done) | (simp; omega)) _)


set_option maxHeartbeats 400000 in
theorem spec_order_same (x y : Int) (w : World) (h1 : dotB x y = true) :
    Calls Try.prog 4 #[.agg #[.int .i64 x, .int .i64 y], .agg #[.int .i64 x, .int .i64 y]] w fun e w' => e = .returned (.tuple #[.int .i64 (0), .int .i64 0]) ∧ Below w.heap.size w w' := by
  go_enter Try.func4, Try.ntmps4
  go_wp2_with (first | (go_at_call 7; refine (spec_dot _ _ _).mono ?_; rintro e w' ⟨rfl, rfl⟩) | go_in)
  go_ret2
  refine ⟨rfl, ?_⟩
  repeat (first | exact Below.refl _ _ | refine Below.drew ?_ | refine Below.alloc ?_ (by first | (simp; done) | (simp; omega)) _ | refine Below.setCell ?_ (by first | (simp; done) | (simp; omega)) _)


theorem spec_order (x y u v : Int) (w : World) :
    Calls Try.prog 4 #[.agg #[.int .i64 x, .int .i64 y], .agg #[.int .i64 u, .int .i64 v]] w fun e w' => e = .returned (.tuple #[.int .i64 (ordV x y u v), .int .i64 (ordC x y u v)]) ∧ Below w.heap.size w w' := by
  by_cases h1 : dotB x y = true
  · by_cases h2 : dotB u v = true
    · have cs : x < u ∨ u < x ∨ x = u := by omega
      rcases cs with h3 | h3 | h3
      · exact (spec_order_lt x y u v w h1 h2 h3).mono fun e w' ⟨he, hb⟩ => ⟨he.trans (ret_ints (by simp [ordV, h1, h2, h3]) (by simp [ordC, h1, h2])), hb⟩
      · have hn : ¬ x < u := by omega
        exact (spec_order_gt x y u v w h1 h2 h3).mono fun e w' ⟨he, hb⟩ => ⟨he.trans (ret_ints (by simp [ordV, h1, h2, h3, hn]) (by simp [ordC, h1, h2])), hb⟩
      · subst h3
        have cs : y < v ∨ v < y ∨ y = v := by omega
        rcases cs with h3 | h3 | h3
        · exact (spec_order_eqlt x y v w h1 h2 h3).mono fun e w' ⟨he, hb⟩ => ⟨he.trans (ret_ints (by simp [ordV, cmpI, h1, h2, h3]) (by simp [ordC, h1, h2])), hb⟩
        · have hn : ¬ y < v := by omega
          exact (spec_order_eqgt x y v w h1 h2 h3).mono fun e w' ⟨he, hb⟩ => ⟨he.trans (ret_ints (by simp [ordV, cmpI, h1, h2, h3, hn]) (by simp [ordC, h1, h2])), hb⟩
        · subst h3
          exact (spec_order_same x y w h1).mono fun e w' ⟨he, hb⟩ => ⟨he.trans (ret_ints (by simp [ordV, cmpI, h1]) (by simp [ordC, h1])), hb⟩
    · have h2' : dotB u v = false := by simpa using h2
      exact (spec_order_bad2 x y u v w h1 h2').mono fun e w' ⟨he, hb⟩ => ⟨he.trans (ret_ints (by simp [ordV, h2']) (by simp [ordC, h2'])), hb⟩
  · have h1' : dotB x y = false := by simpa using h1
    exact (spec_order_bad1 x y u v w h1').mono fun e w' ⟨he, hb⟩ => ⟨he.trans (ret_ints (by simp [ordV, h1']) (by simp [ordC, h1'])), hb⟩



theorem law_keep {x y u v : Int} {w W W' : World} (hb : Below W.heap.size W W') (h : W.cell? ⟨w.heap.size, 0, none⟩ = some (.int .i64 x) ∧ W.cell? ⟨w.heap.size, 1, none⟩ = some (.int .i64 y) ∧ W.cell? ⟨w.heap.size + 1, 0, none⟩ = some (.int .i64 u) ∧ W.cell? ⟨w.heap.size + 1, 1, none⟩ = some (.int .i64 v) ∧ Below w.heap.size w W ∧ w.heap.size + 2 ≤ W.heap.size) : W'.cell? ⟨w.heap.size, 0, none⟩ = some (.int .i64 x) ∧ W'.cell? ⟨w.heap.size, 1, none⟩ = some (.int .i64 y) ∧ W'.cell? ⟨w.heap.size + 1, 0, none⟩ = some (.int .i64 u) ∧ W'.cell? ⟨w.heap.size + 1, 1, none⟩ = some (.int .i64 v) ∧ Below w.heap.size w W' ∧ w.heap.size + 2 ≤ W'.heap.size := by
  obtain ⟨c0, c1, c2, c3, hB, hz⟩ := h
  have hq := hb.size
  exact ⟨cell_next hb c0 (by omega), cell_next hb c1 (by omega), cell_next hb c2 (by omega), cell_next hb c3 (by omega), hB.trans (hb.mono (by omega)), by omega⟩
theorem law_drew {x y u v : Int} {w W : World} (h : W.cell? ⟨w.heap.size, 0, none⟩ = some (.int .i64 x) ∧ W.cell? ⟨w.heap.size, 1, none⟩ = some (.int .i64 y) ∧ W.cell? ⟨w.heap.size + 1, 0, none⟩ = some (.int .i64 u) ∧ W.cell? ⟨w.heap.size + 1, 1, none⟩ = some (.int .i64 v) ∧ Below w.heap.size w W ∧ w.heap.size + 2 ≤ W.heap.size) : W.drew.cell? ⟨w.heap.size, 0, none⟩ = some (.int .i64 x) ∧ W.drew.cell? ⟨w.heap.size, 1, none⟩ = some (.int .i64 y) ∧ W.drew.cell? ⟨w.heap.size + 1, 0, none⟩ = some (.int .i64 u) ∧ W.drew.cell? ⟨w.heap.size + 1, 1, none⟩ = some (.int .i64 v) ∧ Below w.heap.size w W.drew ∧ w.heap.size + 2 ≤ W.drew.heap.size := by
  obtain ⟨c0, c1, c2, c3, hB, hz⟩ := h
  exact ⟨c0, c1, c2, c3, hB.drew, hz⟩
theorem law_below {x y u v : Int} {w W : World} (h : W.cell? ⟨w.heap.size, 0, none⟩ = some (.int .i64 x) ∧ W.cell? ⟨w.heap.size, 1, none⟩ = some (.int .i64 y) ∧ W.cell? ⟨w.heap.size + 1, 0, none⟩ = some (.int .i64 u) ∧ W.cell? ⟨w.heap.size + 1, 1, none⟩ = some (.int .i64 v) ∧ Below w.heap.size w W ∧ w.heap.size + 2 ≤ W.heap.size) : Below w.heap.size w W := by
  obtain ⟨c0, c1, c2, c3, hB, hz⟩ := h
  exact hB

theorem law_start {x y u v : Int} {w : World} : ((w.alloc (.cells #[.int .i64 x, .int .i64 y] 23)).alloc (.cells #[.int .i64 u, .int .i64 v] 23)).drew.cell? ⟨w.heap.size, 0, none⟩ = some (.int .i64 x) ∧ ((w.alloc (.cells #[.int .i64 x, .int .i64 y] 23)).alloc (.cells #[.int .i64 u, .int .i64 v] 23)).drew.cell? ⟨w.heap.size, 1, none⟩ = some (.int .i64 y) ∧ ((w.alloc (.cells #[.int .i64 x, .int .i64 y] 23)).alloc (.cells #[.int .i64 u, .int .i64 v] 23)).drew.cell? ⟨w.heap.size + 1, 0, none⟩ = some (.int .i64 u) ∧ ((w.alloc (.cells #[.int .i64 x, .int .i64 y] 23)).alloc (.cells #[.int .i64 u, .int .i64 v] 23)).drew.cell? ⟨w.heap.size + 1, 1, none⟩ = some (.int .i64 v) ∧ Below w.heap.size w ((w.alloc (.cells #[.int .i64 x, .int .i64 y] 23)).alloc (.cells #[.int .i64 u, .int .i64 v] 23)).drew ∧ w.heap.size + 2 ≤ ((w.alloc (.cells #[.int .i64 x, .int .i64 y] 23)).alloc (.cells #[.int .i64 u, .int .i64 v] 23)).drew.heap.size := by
  refine ⟨?_, ?_, ?_, ?_, (((Below.refl _ _).alloc (by simp) _).alloc (by simp) _).drew, ?_⟩
  all_goals first | (go_simp; done) | (simp; done) | (simp; omega)


set_option maxHeartbeats 1000000 in
theorem dots_law (x y : Int) (_wx : (Lit.int .i64 x).wf = true) (_wy : (Lit.int .i64 y).wf = true) (u v : Int) (_wu : (Lit.int .i64 u).wf = true) (_wv : (Lit.int .i64 v).wf = true) (w : World) :
    Calls Try.prog 3 #[.agg #[.int .i64 x, .int .i64 y], .agg #[.int .i64 u, .int .i64 v]] w fun e w' => e = .returned (.bool true) ∧ Below w.heap.size w w' := by
  clear _wx _wy _wu _wv
  go_enter Try.func3, Try.ntmps3
  go_wp2_with fail
  go_region_held3 (fun w' => w'.cell? ⟨w.heap.size, 0, none⟩ = some (.int .i64 x) ∧ w'.cell? ⟨w.heap.size, 1, none⟩ = some (.int .i64 y) ∧ w'.cell? ⟨w.heap.size + 1, 0, none⟩ = some (.int .i64 u) ∧ w'.cell? ⟨w.heap.size + 1, 1, none⟩ = some (.int .i64 v) ∧ Below w.heap.size w w' ∧ w.heap.size + 2 ≤ w'.heap.size) (first | exact law_start | (refine law_drew ?_; assumption) | (refine law_keep (by assumption) ?_; assumption)) (first | (go_at_call 5; refine (toDot_any _ _ _).mono ?_; rintro e w' ⟨rfl, hb⟩) | (go_at_call 4; refine (spec_order _ _ _ _ _).mono ?_; rintro e w' ⟨rfl, hb⟩))
  go_wp2_with fail
  go_region_held3 (fun w' => w'.cell? ⟨w.heap.size, 0, none⟩ = some (.int .i64 x) ∧ w'.cell? ⟨w.heap.size, 1, none⟩ = some (.int .i64 y) ∧ w'.cell? ⟨w.heap.size + 1, 0, none⟩ = some (.int .i64 u) ∧ w'.cell? ⟨w.heap.size + 1, 1, none⟩ = some (.int .i64 v) ∧ Below w.heap.size w w' ∧ w.heap.size + 2 ≤ w'.heap.size) (first | exact law_start | (refine law_drew ?_; assumption) | (refine law_keep (by assumption) ?_; assumption)) (first | (go_at_call 5; refine (toDot_any _ _ _).mono ?_; rintro e w' ⟨rfl, hb⟩) | (go_at_call 6; refine (impl_order _ _ _ _ _).mono ?_; rintro e w' ⟨rfl, hb⟩))
  go_wp2
  go_ret
  exact ⟨rfl, law_below (by assumption)⟩
end Go.Proofs.Ytcappnoghakdbai

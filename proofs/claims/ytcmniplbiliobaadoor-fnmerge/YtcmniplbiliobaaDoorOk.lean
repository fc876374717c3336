/- A sibling is right: as the specification reckons it. -/
import Derived.Test.YtcmniplbiliobaaDoorRows
import Derived.WalkKit
import Derived.WalkSpells
import Derived.WalkLawsBesides
import Derived.Deep.QuietTactic
import Derived.BigQuiet
import Derived.Deep.RegionHeld3
import Derived.LoopN
import Derived.RegionTactic
import Derived.BigRegion
import Derived.Laws.StructEq
import Derived.Test.YtcmniplbiliobaaDoorVa
namespace Go.Proofs.YtcmniplbiliobaaDoor
open Go.RowKit
set_option linter.unusedSimpArgs false
set_option linter.unusedVariables false

set_option maxHeartbeats 1000000 in
theorem l02sib_dot (p n v : Int) (d : Bool) (w : World) (h : dotB p n = false) :
    Calls Tryd.prog 42 #[.agg #[.int .i64 p, .int .i64 n, .int .i64 v, .bool d]] w fun e w' => e = .returned (.bool false) ∧ Below w.heap.size w w' := by
  go_enter Tryd.func42, Tryd.ntmps42
  go_wp2_with fail
  refine (spec_dot p n _).mono ?_
  rintro e w1 ⟨rfl, hb⟩
  have hz := hb.size
  simp at hz
  have C2 := cell_next hb (b := w.heap.size) (o := 2) (v := .int .i64 v) (by go_simp) (by simp)
  have C3 := cell_next hb (b := w.heap.size) (o := 3) (v := .bool d) (by go_simp) (by simp)
  have hB : Hid (Below w.heap.size w w1) := ((Below.refl _ _).alloc (Nat.le_refl _) _).trans (hb.mono (by simp))
  clear hb
  go_wp2
  go_ret
  exact ⟨rfl, hB.out⟩

set_option maxHeartbeats 1000000 in
theorem l02sib_lo (p n v : Int) (d : Bool) (w : World) (h : dotB p n = true) (h1 : v < 0) :
    Calls Tryd.prog 42 #[.agg #[.int .i64 p, .int .i64 n, .int .i64 v, .bool d]] w fun e w' => e = .returned (.bool false) ∧ Below w.heap.size w w' := by
  have d1 : decide (0 ≤ v) = false := decide_eq_false (by omega)
  go_enter Tryd.func42, Tryd.ntmps42
  go_wp2_with fail
  refine (spec_dot p n _).mono ?_
  rintro e w1 ⟨rfl, hb⟩
  have hz := hb.size
  simp at hz
  have C2 := cell_next hb (b := w.heap.size) (o := 2) (v := .int .i64 v) (by go_simp) (by simp)
  have C3 := cell_next hb (b := w.heap.size) (o := 3) (v := .bool d) (by go_simp) (by simp)
  have hB : Hid (Below w.heap.size w w1) := ((Below.refl _ _).alloc (Nat.le_refl _) _).trans (hb.mono (by simp))
  clear hb
  go_wp2
  go_ret
  exact ⟨rfl, hB.out⟩

set_option maxHeartbeats 1000000 in
theorem l02sib_hi (p n v : Int) (d : Bool) (w : World) (h : dotB p n = true) (h1 : 999 < v) :
    Calls Tryd.prog 42 #[.agg #[.int .i64 p, .int .i64 n, .int .i64 v, .bool d]] w fun e w' => e = .returned (.bool false) ∧ Below w.heap.size w w' := by
  have d0 : 0 ≤ v := by omega
  have d1 : decide (v ≤ 999) = false := decide_eq_false (by omega)
  go_enter Tryd.func42, Tryd.ntmps42
  go_wp2_with fail
  refine (spec_dot p n _).mono ?_
  rintro e w1 ⟨rfl, hb⟩
  have hz := hb.size
  simp at hz
  have C2 := cell_next hb (b := w.heap.size) (o := 2) (v := .int .i64 v) (by go_simp) (by simp)
  have C3 := cell_next hb (b := w.heap.size) (o := 3) (v := .bool d) (by go_simp) (by simp)
  have hB : Hid (Below w.heap.size w w1) := ((Below.refl _ _).alloc (Nat.le_refl _) _).trans (hb.mono (by simp))
  clear hb
  go_wp2
  go_ret
  exact ⟨rfl, hB.out⟩

set_option maxHeartbeats 1000000 in
theorem l02sib_live (p n v : Int) (w : World) (h : dotB p n = true) (h1 : 0 ≤ v) (h2 : v ≤ 999) :
    Calls Tryd.prog 42 #[.agg #[.int .i64 p, .int .i64 n, .int .i64 v, .bool false]] w fun e w' => e = .returned (.bool true) ∧ Below w.heap.size w w' := by
  go_enter Tryd.func42, Tryd.ntmps42
  go_wp2_with fail
  refine (spec_dot p n _).mono ?_
  rintro e w1 ⟨rfl, hb⟩
  have hz := hb.size
  simp at hz
  have C2 := cell_next hb (b := w.heap.size) (o := 2) (v := .int .i64 v) (by go_simp) (by simp)
  have C3 := cell_next hb (b := w.heap.size) (o := 3) (v := .bool false) (by go_simp) (by simp)
  have hB : Hid (Below w.heap.size w w1) := ((Below.refl _ _).alloc (Nat.le_refl _) _).trans (hb.mono (by simp))
  clear hb
  go_wp2
  go_ret
  exact ⟨rfl, hB.out⟩

set_option maxHeartbeats 1000000 in
theorem l02sib_dead (p n v : Int) (w : World) (h : dotB p n = true) (h1 : 0 < v) (h2 : v ≤ 999) :
    Calls Tryd.prog 42 #[.agg #[.int .i64 p, .int .i64 n, .int .i64 v, .bool true]] w fun e w' => e = .returned (.bool false) ∧ Below w.heap.size w w' := by
  have d0 : 0 ≤ v := by omega
  have d1 : (v == 0) = false := beq_eq_false_iff_ne.2 (by omega)
  go_enter Tryd.func42, Tryd.ntmps42
  go_wp2_with fail
  refine (spec_dot p n _).mono ?_
  rintro e w1 ⟨rfl, hb⟩
  have hz := hb.size
  simp at hz
  have C2 := cell_next hb (b := w.heap.size) (o := 2) (v := .int .i64 v) (by go_simp) (by simp)
  have C3 := cell_next hb (b := w.heap.size) (o := 3) (v := .bool true) (by go_simp) (by simp)
  have hB : Hid (Below w.heap.size w w1) := ((Below.refl _ _).alloc (Nat.le_refl _) _).trans (hb.mono (by simp))
  clear hb
  go_wp2
  go_ret
  exact ⟨rfl, hB.out⟩

set_option maxHeartbeats 1000000 in
theorem l02sib_tomb (p n v : Int) (w : World) (h : dotB p n = true) (hv : v = 0) :
    Calls Tryd.prog 42 #[.agg #[.int .i64 p, .int .i64 n, .int .i64 v, .bool true]] w fun e w' => e = .returned (.bool true) ∧ Below w.heap.size w w' := by
  subst hv
  go_enter Tryd.func42, Tryd.ntmps42
  go_wp2_with fail
  refine (spec_dot p n _).mono ?_
  rintro e w1 ⟨rfl, hb⟩
  have hz := hb.size
  simp at hz
  have C2 := cell_next hb (b := w.heap.size) (o := 2) (v := .int .i64 0) (by go_simp) (by simp)
  have C3 := cell_next hb (b := w.heap.size) (o := 3) (v := .bool true) (by go_simp) (by simp)
  have hB : Hid (Below w.heap.size w w1) := ((Below.refl _ _).alloc (Nat.le_refl _) _).trans (hb.mono (by simp))
  clear hb
  go_wp2
  go_ret
  exact ⟨rfl, hB.out⟩

theorem l02sib_any (p n v : Int) (d : Bool) (w : World) :
    Calls Tryd.prog 42 #[.agg #[.int .i64 p, .int .i64 n, .int .i64 v, .bool d]] w fun e w' => e = .returned (.bool (sibOK p n v d)) ∧ Below w.heap.size w w' := by
  cases h : dotB p n
  · exact (l02sib_dot p n v d w h).mono fun e w' ⟨he, hb⟩ => ⟨he.trans (ret_bool (by simp [sibOK, h])), hb⟩
  · by_cases h1 : v < 0
    · have hn : ¬ 0 ≤ v := by omega
      exact (l02sib_lo p n v d w h h1).mono fun e w' ⟨he, hb⟩ => ⟨he.trans (ret_bool (by simp [sibOK, h, hn])), hb⟩
    · by_cases h2 : 999 < v
      · have hn : ¬ v ≤ 999 := by omega
        exact (l02sib_hi p n v d w h h2).mono fun e w' ⟨he, hb⟩ => ⟨he.trans (ret_bool (by simp [sibOK, h, hn])), hb⟩
      · have q1 : 0 ≤ v := by omega
        have q2 : v ≤ 999 := by omega
        cases d
        · exact (l02sib_live p n v w h q1 q2).mono fun e w' ⟨he, hb⟩ => ⟨he.trans (ret_bool (by simp [sibOK, h, q1, q2])), hb⟩
        · by_cases h3 : v = 0
          · exact (l02sib_tomb p n v w h h3).mono fun e w' ⟨he, hb⟩ => ⟨he.trans (ret_bool (by simp [sibOK, h, h3])), hb⟩
          · exact (l02sib_dead p n v w h (by omega) q2).mono fun e w' ⟨he, hb⟩ => ⟨he.trans (ret_bool (by simp [sibOK, h, h3])), hb⟩
end Go.Proofs.YtcmniplbiliobaaDoor

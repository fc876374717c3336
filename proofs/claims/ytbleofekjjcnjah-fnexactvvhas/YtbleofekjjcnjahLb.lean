/- VvHas of the program and of the specification answer alike. -/
import Derived.Test.YtbleofekjjcnjahRows
import Derived.WalkKit
import Derived.WalkSpells
import Derived.WalkLawsBesides
import Derived.Deep.QuietTactic
import Derived.BigQuiet
import Derived.Deep.RegionHeld3
import Derived.LoopN
import Derived.RegionTactic
import Derived.BigRegion
import Derived.Test.YtbleofekjjcnjahHb
namespace Go.Proofs.Ytbleofekjjcnjah
open Go.RowKit
set_option linter.unusedSimpArgs false
set_option linter.unusedVariables false


set_option maxHeartbeats 1000000 in
theorem knows_0true (a b c q : Int) (w : World) (hq : q ≤ a) :
    Calls Try.prog 31 #[.agg #[.int .i64 a, .int .i64 b, .int .i64 c], .agg #[.int .i64 0, .int .i64 q]] w fun e w' => e = .returned (.bool true) ∧ Below w.heap.size w w' := by
  have dq : decide (q ≤ a) = true := by simp; omega
  go_enter Try.func31, Try.ntmps31
  go_wp2
  go_quiet (fail)
  go_wp2
  go_ret
  refine ⟨ret_bool (by simp [dq]), ?_⟩
  repeat (first | exact Below.refl _ _ | refine Below.drew ?_ | refine below_drewN ?_ _ | refine Below.alloc ?_ (by first | (simp; done) | (simp; omega)) _ | refine Below.setCell ?_ (by first | (simp; done) | (simp; omega)) _)

set_option maxHeartbeats 1000000 in
theorem impl_has_0true (a b c q : Int) (w : World) (h : vvB a b c = true) (h' : dotB 0 q = true) (hq : q ≤ a) :
    Calls Try.prog 19 #[.agg #[.int .i64 a, .int .i64 b, .int .i64 c], .agg #[.int .i64 0, .int .i64 q]] w fun e w' => e = .returned (.tuple #[.bool true, .int .i64 0]) ∧ Below w.heap.size w w' := by
  have HQ : Hid (q ≤ a) := hq
  clear hq
  go_enter Try.func19, Try.ntmps19
  go_wp2_with fail
  refine (impl_vv _ _ _ _).mono ?_
  rintro e w1 ⟨rfl, hb⟩
  have hS1 := vh_keep hb vh_start0
  clear hb
  obtain ⟨_c0, _c1, _c2, _c3, _c4, _hB, _hz⟩ := id hS1
  go_wp2_with fail
  refine (impl_dot _ _ _).mono ?_
  rintro e w2 ⟨rfl, hb⟩
  have hS2 := vh_keep hb hS1
  clear hb
  obtain ⟨_c0, _c1, _c2, _c3, _c4, _hB, _hz⟩ := id hS2
  go_wp2_with fail
  refine (knows_0true a b c q _ HQ.out).mono ?_
  rintro e w3 ⟨rfl, hb⟩
  have hS3 := vh_keep hb hS2
  clear hb
  obtain ⟨_c0, _c1, _c2, _c3, _c4, _hB, _hz⟩ := id hS3
  go_wp2_with fail
  go_ret2
  exact ⟨rfl, _hB⟩

set_option maxHeartbeats 1000000 in
theorem knows_0false (a b c q : Int) (w : World) (hq : a < q) :
    Calls Try.prog 31 #[.agg #[.int .i64 a, .int .i64 b, .int .i64 c], .agg #[.int .i64 0, .int .i64 q]] w fun e w' => e = .returned (.bool false) ∧ Below w.heap.size w w' := by
  have dq : decide (q ≤ a) = false := by simp; omega
  go_enter Try.func31, Try.ntmps31
  go_wp2
  go_quiet (fail)
  go_wp2
  go_ret
  refine ⟨ret_bool (by simp [dq]), ?_⟩
  repeat (first | exact Below.refl _ _ | refine Below.drew ?_ | refine below_drewN ?_ _ | refine Below.alloc ?_ (by first | (simp; done) | (simp; omega)) _ | refine Below.setCell ?_ (by first | (simp; done) | (simp; omega)) _)

set_option maxHeartbeats 1000000 in
theorem impl_has_0false (a b c q : Int) (w : World) (h : vvB a b c = true) (h' : dotB 0 q = true) (hq : a < q) :
    Calls Try.prog 19 #[.agg #[.int .i64 a, .int .i64 b, .int .i64 c], .agg #[.int .i64 0, .int .i64 q]] w fun e w' => e = .returned (.tuple #[.bool false, .int .i64 0]) ∧ Below w.heap.size w w' := by
  have HQ : Hid (a < q) := hq
  clear hq
  go_enter Try.func19, Try.ntmps19
  go_wp2_with fail
  refine (impl_vv _ _ _ _).mono ?_
  rintro e w1 ⟨rfl, hb⟩
  have hS1 := vh_keep hb vh_start0
  clear hb
  obtain ⟨_c0, _c1, _c2, _c3, _c4, _hB, _hz⟩ := id hS1
  go_wp2_with fail
  refine (impl_dot _ _ _).mono ?_
  rintro e w2 ⟨rfl, hb⟩
  have hS2 := vh_keep hb hS1
  clear hb
  obtain ⟨_c0, _c1, _c2, _c3, _c4, _hB, _hz⟩ := id hS2
  go_wp2_with fail
  refine (knows_0false a b c q _ HQ.out).mono ?_
  rintro e w3 ⟨rfl, hb⟩
  have hS3 := vh_keep hb hS2
  clear hb
  obtain ⟨_c0, _c1, _c2, _c3, _c4, _hB, _hz⟩ := id hS3
  go_wp2_with fail
  go_ret2
  exact ⟨rfl, _hB⟩

set_option maxHeartbeats 1000000 in
theorem knows_1true (a b c q : Int) (w : World) (hq : q ≤ b) :
    Calls Try.prog 31 #[.agg #[.int .i64 a, .int .i64 b, .int .i64 c], .agg #[.int .i64 1, .int .i64 q]] w fun e w' => e = .returned (.bool true) ∧ Below w.heap.size w w' := by
  have dq : decide (q ≤ b) = true := by simp; omega
  go_enter Try.func31, Try.ntmps31
  go_wp2
  go_quiet (fail)
  go_wp2
  go_ret
  refine ⟨ret_bool (by simp [dq]), ?_⟩
  repeat (first | exact Below.refl _ _ | refine Below.drew ?_ | refine below_drewN ?_ _ | refine Below.alloc ?_ (by first | (simp; done) | (simp; omega)) _ | refine Below.setCell ?_ (by first | (simp; done) | (simp; omega)) _)

set_option maxHeartbeats 1000000 in
theorem impl_has_1true (a b c q : Int) (w : World) (h : vvB a b c = true) (h' : dotB 1 q = true) (hq : q ≤ b) :
    Calls Try.prog 19 #[.agg #[.int .i64 a, .int .i64 b, .int .i64 c], .agg #[.int .i64 1, .int .i64 q]] w fun e w' => e = .returned (.tuple #[.bool true, .int .i64 0]) ∧ Below w.heap.size w w' := by
  have HQ : Hid (q ≤ b) := hq
  clear hq
  go_enter Try.func19, Try.ntmps19
  go_wp2_with fail
  refine (impl_vv _ _ _ _).mono ?_
  rintro e w1 ⟨rfl, hb⟩
  have hS1 := vh_keep hb vh_start0
  clear hb
  obtain ⟨_c0, _c1, _c2, _c3, _c4, _hB, _hz⟩ := id hS1
  go_wp2_with fail
  refine (impl_dot _ _ _).mono ?_
  rintro e w2 ⟨rfl, hb⟩
  have hS2 := vh_keep hb hS1
  clear hb
  obtain ⟨_c0, _c1, _c2, _c3, _c4, _hB, _hz⟩ := id hS2
  go_wp2_with fail
  refine (knows_1true a b c q _ HQ.out).mono ?_
  rintro e w3 ⟨rfl, hb⟩
  have hS3 := vh_keep hb hS2
  clear hb
  obtain ⟨_c0, _c1, _c2, _c3, _c4, _hB, _hz⟩ := id hS3
  go_wp2_with fail
  go_ret2
  exact ⟨rfl, _hB⟩

set_option maxHeartbeats 1000000 in
theorem knows_1false (a b c q : Int) (w : World) (hq : b < q) :
    Calls Try.prog 31 #[.agg #[.int .i64 a, .int .i64 b, .int .i64 c], .agg #[.int .i64 1, .int .i64 q]] w fun e w' => e = .returned (.bool false) ∧ Below w.heap.size w w' := by
  have dq : decide (q ≤ b) = false := by simp; omega
  go_enter Try.func31, Try.ntmps31
  go_wp2
  go_quiet (fail)
  go_wp2
  go_ret
  refine ⟨ret_bool (by simp [dq]), ?_⟩
  repeat (first | exact Below.refl _ _ | refine Below.drew ?_ | refine below_drewN ?_ _ | refine Below.alloc ?_ (by first | (simp; done) | (simp; omega)) _ | refine Below.setCell ?_ (by first | (simp; done) | (simp; omega)) _)

set_option maxHeartbeats 1000000 in
theorem impl_has_1false (a b c q : Int) (w : World) (h : vvB a b c = true) (h' : dotB 1 q = true) (hq : b < q) :
    Calls Try.prog 19 #[.agg #[.int .i64 a, .int .i64 b, .int .i64 c], .agg #[.int .i64 1, .int .i64 q]] w fun e w' => e = .returned (.tuple #[.bool false, .int .i64 0]) ∧ Below w.heap.size w w' := by
  have HQ : Hid (b < q) := hq
  clear hq
  go_enter Try.func19, Try.ntmps19
  go_wp2_with fail
  refine (impl_vv _ _ _ _).mono ?_
  rintro e w1 ⟨rfl, hb⟩
  have hS1 := vh_keep hb vh_start0
  clear hb
  obtain ⟨_c0, _c1, _c2, _c3, _c4, _hB, _hz⟩ := id hS1
  go_wp2_with fail
  refine (impl_dot _ _ _).mono ?_
  rintro e w2 ⟨rfl, hb⟩
  have hS2 := vh_keep hb hS1
  clear hb
  obtain ⟨_c0, _c1, _c2, _c3, _c4, _hB, _hz⟩ := id hS2
  go_wp2_with fail
  refine (knows_1false a b c q _ HQ.out).mono ?_
  rintro e w3 ⟨rfl, hb⟩
  have hS3 := vh_keep hb hS2
  clear hb
  obtain ⟨_c0, _c1, _c2, _c3, _c4, _hB, _hz⟩ := id hS3
  go_wp2_with fail
  go_ret2
  exact ⟨rfl, _hB⟩

set_option maxHeartbeats 1000000 in
theorem knows_2true (a b c q : Int) (w : World) (hq : q ≤ c) :
    Calls Try.prog 31 #[.agg #[.int .i64 a, .int .i64 b, .int .i64 c], .agg #[.int .i64 2, .int .i64 q]] w fun e w' => e = .returned (.bool true) ∧ Below w.heap.size w w' := by
  have dq : decide (q ≤ c) = true := by simp; omega
  go_enter Try.func31, Try.ntmps31
  go_wp2
  go_quiet (fail)
  go_wp2
  go_ret
  refine ⟨ret_bool (by simp [dq]), ?_⟩
  repeat (first | exact Below.refl _ _ | refine Below.drew ?_ | refine below_drewN ?_ _ | refine Below.alloc ?_ (by first | (simp; done) | (simp; omega)) _ | refine Below.setCell ?_ (by first | (simp; done) | (simp; omega)) _)

set_option maxHeartbeats 1000000 in
theorem impl_has_2true (a b c q : Int) (w : World) (h : vvB a b c = true) (h' : dotB 2 q = true) (hq : q ≤ c) :
    Calls Try.prog 19 #[.agg #[.int .i64 a, .int .i64 b, .int .i64 c], .agg #[.int .i64 2, .int .i64 q]] w fun e w' => e = .returned (.tuple #[.bool true, .int .i64 0]) ∧ Below w.heap.size w w' := by
  have HQ : Hid (q ≤ c) := hq
  clear hq
  go_enter Try.func19, Try.ntmps19
  go_wp2_with fail
  refine (impl_vv _ _ _ _).mono ?_
  rintro e w1 ⟨rfl, hb⟩
  have hS1 := vh_keep hb vh_start0
  clear hb
  obtain ⟨_c0, _c1, _c2, _c3, _c4, _hB, _hz⟩ := id hS1
  go_wp2_with fail
  refine (impl_dot _ _ _).mono ?_
  rintro e w2 ⟨rfl, hb⟩
  have hS2 := vh_keep hb hS1
  clear hb
  obtain ⟨_c0, _c1, _c2, _c3, _c4, _hB, _hz⟩ := id hS2
  go_wp2_with fail
  refine (knows_2true a b c q _ HQ.out).mono ?_
  rintro e w3 ⟨rfl, hb⟩
  have hS3 := vh_keep hb hS2
  clear hb
  obtain ⟨_c0, _c1, _c2, _c3, _c4, _hB, _hz⟩ := id hS3
  go_wp2_with fail
  go_ret2
  exact ⟨rfl, _hB⟩

set_option maxHeartbeats 1000000 in
theorem knows_2false (a b c q : Int) (w : World) (hq : c < q) :
    Calls Try.prog 31 #[.agg #[.int .i64 a, .int .i64 b, .int .i64 c], .agg #[.int .i64 2, .int .i64 q]] w fun e w' => e = .returned (.bool false) ∧ Below w.heap.size w w' := by
  have dq : decide (q ≤ c) = false := by simp; omega
  go_enter Try.func31, Try.ntmps31
  go_wp2
  go_quiet (fail)
  go_wp2
  go_ret
  refine ⟨ret_bool (by simp [dq]), ?_⟩
  repeat (first | exact Below.refl _ _ | refine Below.drew ?_ | refine below_drewN ?_ _ | refine Below.alloc ?_ (by first | (simp; done) | (simp; omega)) _ | refine Below.setCell ?_ (by first | (simp; done) | (simp; omega)) _)

set_option maxHeartbeats 1000000 in
theorem impl_has_2false (a b c q : Int) (w : World) (h : vvB a b c = true) (h' : dotB 2 q = true) (hq : c < q) :
    Calls Try.prog 19 #[.agg #[.int .i64 a, .int .i64 b, .int .i64 c], .agg #[.int .i64 2, .int .i64 q]] w fun e w' => e = .returned (.tuple #[.bool false, .int .i64 0]) ∧ Below w.heap.size w w' := by
  have HQ : Hid (c < q) := hq
  clear hq
  go_enter Try.func19, Try.ntmps19
  go_wp2_with fail
  refine (impl_vv _ _ _ _).mono ?_
  rintro e w1 ⟨rfl, hb⟩
  have hS1 := vh_keep hb vh_start0
  clear hb
  obtain ⟨_c0, _c1, _c2, _c3, _c4, _hB, _hz⟩ := id hS1
  go_wp2_with fail
  refine (impl_dot _ _ _).mono ?_
  rintro e w2 ⟨rfl, hb⟩
  have hS2 := vh_keep hb hS1
  clear hb
  obtain ⟨_c0, _c1, _c2, _c3, _c4, _hB, _hz⟩ := id hS2
  go_wp2_with fail
  refine (knows_2false a b c q _ HQ.out).mono ?_
  rintro e w3 ⟨rfl, hb⟩
  have hS3 := vh_keep hb hS2
  clear hb
  obtain ⟨_c0, _c1, _c2, _c3, _c4, _hB, _hz⟩ := id hS3
  go_wp2_with fail
  go_ret2
  exact ⟨rfl, _hB⟩

def okD (t : Bool) : Int := if t = true then 0 else 1

def hasV (t : Bool) (x q : Int) : Bool := t && decide (q ≤ x)

def addV (t : Bool) (i p x q : Int) : Int := if t = true then (if p = i ∧ x < q then q else x) else 0

theorem spec_has (a b c p q : Int) (w : World) :
    Calls Try.prog 17 #[.agg #[.int .i64 a, .int .i64 b, .int .i64 c], .agg #[.int .i64 p, .int .i64 q]] w fun e w' => e = .returned (.tuple #[.bool (hasV (vvB a b c && dotB p q) (comp a b c p) q), .int .i64 (okD (vvB a b c && dotB p q))]) ∧ Below w.heap.size w w' := by
  cases h1 : vvB a b c
  · exact (spec_has_bad1 a b c p q w h1).mono fun e w' ⟨he, hb⟩ => ⟨he.trans (ret_bint (by simp [hasV]) (by simp [okD])), hb⟩
  · cases h2 : dotB p q
    · exact (spec_has_bad2 a b c p q w h1 h2).mono fun e w' ⟨he, hb⟩ => ⟨he.trans (ret_bint (by simp [hasV]) (by simp [okD])), hb⟩
    · rcases dot_node h2 with hp | hp | hp <;> subst hp
      · by_cases hq : q ≤ a
        · exact (spec_has_0true a b c q w h1 h2 hq).mono fun e w' ⟨he, hb⟩ => ⟨he.trans (ret_bint (by simp [hasV, comp, hq]) (by simp [okD])), hb⟩
        · exact (spec_has_0false a b c q w h1 h2 (by omega)).mono fun e w' ⟨he, hb⟩ => ⟨he.trans (ret_bint (by simp [hasV, comp, hq]) (by simp [okD])), hb⟩
      · by_cases hq : q ≤ b
        · exact (spec_has_1true a b c q w h1 h2 hq).mono fun e w' ⟨he, hb⟩ => ⟨he.trans (ret_bint (by simp [hasV, comp, hq]) (by simp [okD])), hb⟩
        · exact (spec_has_1false a b c q w h1 h2 (by omega)).mono fun e w' ⟨he, hb⟩ => ⟨he.trans (ret_bint (by simp [hasV, comp, hq]) (by simp [okD])), hb⟩
      · by_cases hq : q ≤ c
        · exact (spec_has_2true a b c q w h1 h2 hq).mono fun e w' ⟨he, hb⟩ => ⟨he.trans (ret_bint (by simp [hasV, comp, hq]) (by simp [okD])), hb⟩
        · exact (spec_has_2false a b c q w h1 h2 (by omega)).mono fun e w' ⟨he, hb⟩ => ⟨he.trans (ret_bint (by simp [hasV, comp, hq]) (by simp [okD])), hb⟩

theorem impl_has (a b c p q : Int) (w : World) :
    Calls Try.prog 19 #[.agg #[.int .i64 a, .int .i64 b, .int .i64 c], .agg #[.int .i64 p, .int .i64 q]] w fun e w' => e = .returned (.tuple #[.bool (hasV (vvB a b c && dotB p q) (comp a b c p) q), .int .i64 (okD (vvB a b c && dotB p q))]) ∧ Below w.heap.size w w' := by
  cases h1 : vvB a b c
  · exact (impl_has_bad1 a b c p q w h1).mono fun e w' ⟨he, hb⟩ => ⟨he.trans (ret_bint (by simp [hasV]) (by simp [okD])), hb⟩
  · cases h2 : dotB p q
    · exact (impl_has_bad2 a b c p q w h1 h2).mono fun e w' ⟨he, hb⟩ => ⟨he.trans (ret_bint (by simp [hasV]) (by simp [okD])), hb⟩
    · rcases dot_node h2 with hp | hp | hp <;> subst hp
      · by_cases hq : q ≤ a
        · exact (impl_has_0true a b c q w h1 h2 hq).mono fun e w' ⟨he, hb⟩ => ⟨he.trans (ret_bint (by simp [hasV, comp, hq]) (by simp [okD])), hb⟩
        · exact (impl_has_0false a b c q w h1 h2 (by omega)).mono fun e w' ⟨he, hb⟩ => ⟨he.trans (ret_bint (by simp [hasV, comp, hq]) (by simp [okD])), hb⟩
      · by_cases hq : q ≤ b
        · exact (impl_has_1true a b c q w h1 h2 hq).mono fun e w' ⟨he, hb⟩ => ⟨he.trans (ret_bint (by simp [hasV, comp, hq]) (by simp [okD])), hb⟩
        · exact (impl_has_1false a b c q w h1 h2 (by omega)).mono fun e w' ⟨he, hb⟩ => ⟨he.trans (ret_bint (by simp [hasV, comp, hq]) (by simp [okD])), hb⟩
      · by_cases hq : q ≤ c
        · exact (impl_has_2true a b c q w h1 h2 hq).mono fun e w' ⟨he, hb⟩ => ⟨he.trans (ret_bint (by simp [hasV, comp, hq]) (by simp [okD])), hb⟩
        · exact (impl_has_2false a b c q w h1 h2 (by omega)).mono fun e w' ⟨he, hb⟩ => ⟨he.trans (ret_bint (by simp [hasV, comp, hq]) (by simp [okD])), hb⟩

theorem lh_keep {a b c p q : Int} {w W W' : World} (hb : Below W.heap.size W W') (h : W.cell? ⟨w.heap.size, 0, none⟩ = some (.int .i64 a) ∧ W.cell? ⟨w.heap.size, 1, none⟩ = some (.int .i64 b) ∧ W.cell? ⟨w.heap.size, 2, none⟩ = some (.int .i64 c) ∧ W.cell? ⟨w.heap.size + 1, 0, none⟩ = some (.int .i64 p) ∧ W.cell? ⟨w.heap.size + 1, 1, none⟩ = some (.int .i64 q) ∧ Below w.heap.size w W ∧ w.heap.size + 2 ≤ W.heap.size) : W'.cell? ⟨w.heap.size, 0, none⟩ = some (.int .i64 a) ∧ W'.cell? ⟨w.heap.size, 1, none⟩ = some (.int .i64 b) ∧ W'.cell? ⟨w.heap.size, 2, none⟩ = some (.int .i64 c) ∧ W'.cell? ⟨w.heap.size + 1, 0, none⟩ = some (.int .i64 p) ∧ W'.cell? ⟨w.heap.size + 1, 1, none⟩ = some (.int .i64 q) ∧ Below w.heap.size w W' ∧ w.heap.size + 2 ≤ W'.heap.size := by
  obtain ⟨c0, c1, c2, c3, c4, hB, hz⟩ := h
  have hq := hb.size
  exact ⟨cell_next hb c0 (by omega), cell_next hb c1 (by omega), cell_next hb c2 (by omega), cell_next hb c3 (by omega), cell_next hb c4 (by omega), hB.trans (hb.mono (by omega)), by omega⟩

theorem lh_alloc {a b c p q : Int} {w W : World} {ob : Obj} (h : W.cell? ⟨w.heap.size, 0, none⟩ = some (.int .i64 a) ∧ W.cell? ⟨w.heap.size, 1, none⟩ = some (.int .i64 b) ∧ W.cell? ⟨w.heap.size, 2, none⟩ = some (.int .i64 c) ∧ W.cell? ⟨w.heap.size + 1, 0, none⟩ = some (.int .i64 p) ∧ W.cell? ⟨w.heap.size + 1, 1, none⟩ = some (.int .i64 q) ∧ Below w.heap.size w W ∧ w.heap.size + 2 ≤ W.heap.size) : (W.alloc ob).cell? ⟨w.heap.size, 0, none⟩ = some (.int .i64 a) ∧ (W.alloc ob).cell? ⟨w.heap.size, 1, none⟩ = some (.int .i64 b) ∧ (W.alloc ob).cell? ⟨w.heap.size, 2, none⟩ = some (.int .i64 c) ∧ (W.alloc ob).cell? ⟨w.heap.size + 1, 0, none⟩ = some (.int .i64 p) ∧ (W.alloc ob).cell? ⟨w.heap.size + 1, 1, none⟩ = some (.int .i64 q) ∧ Below w.heap.size w (W.alloc ob) ∧ w.heap.size + 2 ≤ (W.alloc ob).heap.size := lh_keep ((Below.refl _ _).alloc (Nat.le_refl _) _) h

theorem lh_drew {a b c p q : Int} {w W : World} (h : W.cell? ⟨w.heap.size, 0, none⟩ = some (.int .i64 a) ∧ W.cell? ⟨w.heap.size, 1, none⟩ = some (.int .i64 b) ∧ W.cell? ⟨w.heap.size, 2, none⟩ = some (.int .i64 c) ∧ W.cell? ⟨w.heap.size + 1, 0, none⟩ = some (.int .i64 p) ∧ W.cell? ⟨w.heap.size + 1, 1, none⟩ = some (.int .i64 q) ∧ Below w.heap.size w W ∧ w.heap.size + 2 ≤ W.heap.size) : W.drew.cell? ⟨w.heap.size, 0, none⟩ = some (.int .i64 a) ∧ W.drew.cell? ⟨w.heap.size, 1, none⟩ = some (.int .i64 b) ∧ W.drew.cell? ⟨w.heap.size, 2, none⟩ = some (.int .i64 c) ∧ W.drew.cell? ⟨w.heap.size + 1, 0, none⟩ = some (.int .i64 p) ∧ W.drew.cell? ⟨w.heap.size + 1, 1, none⟩ = some (.int .i64 q) ∧ Below w.heap.size w W.drew ∧ w.heap.size + 2 ≤ W.drew.heap.size := by
  obtain ⟨c0, c1, c2, c3, c4, hB, hz⟩ := h
  exact ⟨c0, c1, c2, c3, c4, hB.drew, hz⟩

theorem lh_below {a b c p q : Int} {w W : World} (h : W.cell? ⟨w.heap.size, 0, none⟩ = some (.int .i64 a) ∧ W.cell? ⟨w.heap.size, 1, none⟩ = some (.int .i64 b) ∧ W.cell? ⟨w.heap.size, 2, none⟩ = some (.int .i64 c) ∧ W.cell? ⟨w.heap.size + 1, 0, none⟩ = some (.int .i64 p) ∧ W.cell? ⟨w.heap.size + 1, 1, none⟩ = some (.int .i64 q) ∧ Below w.heap.size w W ∧ w.heap.size + 2 ≤ W.heap.size) : Below w.heap.size w W := by
  obtain ⟨c0, c1, c2, c3, c4, hB, hz⟩ := h
  exact hB

theorem lh_size {a b c p q : Int} {w W : World} (h : W.cell? ⟨w.heap.size, 0, none⟩ = some (.int .i64 a) ∧ W.cell? ⟨w.heap.size, 1, none⟩ = some (.int .i64 b) ∧ W.cell? ⟨w.heap.size, 2, none⟩ = some (.int .i64 c) ∧ W.cell? ⟨w.heap.size + 1, 0, none⟩ = some (.int .i64 p) ∧ W.cell? ⟨w.heap.size + 1, 1, none⟩ = some (.int .i64 q) ∧ Below w.heap.size w W ∧ w.heap.size + 2 ≤ W.heap.size) : w.heap.size + 2 ≤ W.heap.size := by
  obtain ⟨c0, c1, c2, c3, c4, hB, hz⟩ := h
  exact hz

theorem lh_set {a b c p q : Int} {w W : World} {t j : Nat} {u : Value} (h : W.cell? ⟨w.heap.size, 0, none⟩ = some (.int .i64 a) ∧ W.cell? ⟨w.heap.size, 1, none⟩ = some (.int .i64 b) ∧ W.cell? ⟨w.heap.size, 2, none⟩ = some (.int .i64 c) ∧ W.cell? ⟨w.heap.size + 1, 0, none⟩ = some (.int .i64 p) ∧ W.cell? ⟨w.heap.size + 1, 1, none⟩ = some (.int .i64 q) ∧ Below w.heap.size w W ∧ w.heap.size + 2 ≤ W.heap.size) (ht : w.heap.size + 2 ≤ t) : (W.setCell ⟨t, j, none⟩ u).cell? ⟨w.heap.size, 0, none⟩ = some (.int .i64 a) ∧ (W.setCell ⟨t, j, none⟩ u).cell? ⟨w.heap.size, 1, none⟩ = some (.int .i64 b) ∧ (W.setCell ⟨t, j, none⟩ u).cell? ⟨w.heap.size, 2, none⟩ = some (.int .i64 c) ∧ (W.setCell ⟨t, j, none⟩ u).cell? ⟨w.heap.size + 1, 0, none⟩ = some (.int .i64 p) ∧ (W.setCell ⟨t, j, none⟩ u).cell? ⟨w.heap.size + 1, 1, none⟩ = some (.int .i64 q) ∧ Below w.heap.size w (W.setCell ⟨t, j, none⟩ u) ∧ w.heap.size + 2 ≤ (W.setCell ⟨t, j, none⟩ u).heap.size := by
  obtain ⟨c0, c1, c2, c3, c4, hB, hz⟩ := h
  exact ⟨cell_set c0 (by omega), cell_set c1 (by omega), cell_set c2 (by omega), cell_set c3 (by omega), cell_set c4 (by omega), hB.setCell (by simp; omega) _, by simpa [World.setCell] using hz⟩

theorem lh_start {a b c p q : Int} {w : World} : ((w.alloc (.cells #[.int .i64 a, .int .i64 b, .int .i64 c] 22)).alloc (.cells #[.int .i64 p, .int .i64 q] 32)).drew.cell? ⟨w.heap.size, 0, none⟩ = some (.int .i64 a) ∧ ((w.alloc (.cells #[.int .i64 a, .int .i64 b, .int .i64 c] 22)).alloc (.cells #[.int .i64 p, .int .i64 q] 32)).drew.cell? ⟨w.heap.size, 1, none⟩ = some (.int .i64 b) ∧ ((w.alloc (.cells #[.int .i64 a, .int .i64 b, .int .i64 c] 22)).alloc (.cells #[.int .i64 p, .int .i64 q] 32)).drew.cell? ⟨w.heap.size, 2, none⟩ = some (.int .i64 c) ∧ ((w.alloc (.cells #[.int .i64 a, .int .i64 b, .int .i64 c] 22)).alloc (.cells #[.int .i64 p, .int .i64 q] 32)).drew.cell? ⟨w.heap.size + 1, 0, none⟩ = some (.int .i64 p) ∧ ((w.alloc (.cells #[.int .i64 a, .int .i64 b, .int .i64 c] 22)).alloc (.cells #[.int .i64 p, .int .i64 q] 32)).drew.cell? ⟨w.heap.size + 1, 1, none⟩ = some (.int .i64 q) ∧ Below w.heap.size w ((w.alloc (.cells #[.int .i64 a, .int .i64 b, .int .i64 c] 22)).alloc (.cells #[.int .i64 p, .int .i64 q] 32)).drew ∧ w.heap.size + 2 ≤ ((w.alloc (.cells #[.int .i64 a, .int .i64 b, .int .i64 c] 22)).alloc (.cells #[.int .i64 p, .int .i64 q] 32)).drew.heap.size := by
  refine ⟨?_, ?_, ?_, ?_, ?_, (((Below.refl _ _).alloc (by simp) _).alloc (by simp) _).drew, ?_⟩
  all_goals first | (go_simp; done) | (simp; done) | (simp; omega)

theorem lh_start0 {a b c p q : Int} {w : World} : ((w.alloc (.cells #[.int .i64 a, .int .i64 b, .int .i64 c] 22)).alloc (.cells #[.int .i64 p, .int .i64 q] 32)).cell? ⟨w.heap.size, 0, none⟩ = some (.int .i64 a) ∧ ((w.alloc (.cells #[.int .i64 a, .int .i64 b, .int .i64 c] 22)).alloc (.cells #[.int .i64 p, .int .i64 q] 32)).cell? ⟨w.heap.size, 1, none⟩ = some (.int .i64 b) ∧ ((w.alloc (.cells #[.int .i64 a, .int .i64 b, .int .i64 c] 22)).alloc (.cells #[.int .i64 p, .int .i64 q] 32)).cell? ⟨w.heap.size, 2, none⟩ = some (.int .i64 c) ∧ ((w.alloc (.cells #[.int .i64 a, .int .i64 b, .int .i64 c] 22)).alloc (.cells #[.int .i64 p, .int .i64 q] 32)).cell? ⟨w.heap.size + 1, 0, none⟩ = some (.int .i64 p) ∧ ((w.alloc (.cells #[.int .i64 a, .int .i64 b, .int .i64 c] 22)).alloc (.cells #[.int .i64 p, .int .i64 q] 32)).cell? ⟨w.heap.size + 1, 1, none⟩ = some (.int .i64 q) ∧ Below w.heap.size w ((w.alloc (.cells #[.int .i64 a, .int .i64 b, .int .i64 c] 22)).alloc (.cells #[.int .i64 p, .int .i64 q] 32)) ∧ w.heap.size + 2 ≤ ((w.alloc (.cells #[.int .i64 a, .int .i64 b, .int .i64 c] 22)).alloc (.cells #[.int .i64 p, .int .i64 q] 32)).heap.size := by
  refine ⟨?_, ?_, ?_, ?_, ?_, (((Below.refl _ _).alloc (by simp) _).alloc (by simp) _), ?_⟩
  all_goals first | (go_simp; done) | (simp; done) | (simp; omega)

theorem lj_keep {g : Nat} {a b c p q m n o : Int} {w W W' : World} (hb : Below W.heap.size W W') (h : W.cell? ⟨w.heap.size, 0, none⟩ = some (.int .i64 a) ∧ W.cell? ⟨w.heap.size, 1, none⟩ = some (.int .i64 b) ∧ W.cell? ⟨w.heap.size, 2, none⟩ = some (.int .i64 c) ∧ W.cell? ⟨w.heap.size + 1, 0, none⟩ = some (.int .i64 p) ∧ W.cell? ⟨w.heap.size + 1, 1, none⟩ = some (.int .i64 q) ∧ W.cell? ⟨g, 0, none⟩ = some (.int .i64 m) ∧ W.cell? ⟨g, 1, none⟩ = some (.int .i64 n) ∧ W.cell? ⟨g, 2, none⟩ = some (.int .i64 o) ∧ g < W.heap.size ∧ Below w.heap.size w W ∧ w.heap.size + 2 ≤ W.heap.size) : W'.cell? ⟨w.heap.size, 0, none⟩ = some (.int .i64 a) ∧ W'.cell? ⟨w.heap.size, 1, none⟩ = some (.int .i64 b) ∧ W'.cell? ⟨w.heap.size, 2, none⟩ = some (.int .i64 c) ∧ W'.cell? ⟨w.heap.size + 1, 0, none⟩ = some (.int .i64 p) ∧ W'.cell? ⟨w.heap.size + 1, 1, none⟩ = some (.int .i64 q) ∧ W'.cell? ⟨g, 0, none⟩ = some (.int .i64 m) ∧ W'.cell? ⟨g, 1, none⟩ = some (.int .i64 n) ∧ W'.cell? ⟨g, 2, none⟩ = some (.int .i64 o) ∧ g < W'.heap.size ∧ Below w.heap.size w W' ∧ w.heap.size + 2 ≤ W'.heap.size := by
  obtain ⟨c0, c1, c2, c3, c4, c5, c6, c7, g0, hB, hz⟩ := h
  have hq := hb.size
  exact ⟨cell_next hb c0 (by omega), cell_next hb c1 (by omega), cell_next hb c2 (by omega), cell_next hb c3 (by omega), cell_next hb c4 (by omega), cell_next hb c5 (by omega), cell_next hb c6 (by omega), cell_next hb c7 (by omega), by omega, hB.trans (hb.mono (by omega)), by omega⟩

theorem lj_alloc {g : Nat} {a b c p q m n o : Int} {w W : World} {ob : Obj} (h : W.cell? ⟨w.heap.size, 0, none⟩ = some (.int .i64 a) ∧ W.cell? ⟨w.heap.size, 1, none⟩ = some (.int .i64 b) ∧ W.cell? ⟨w.heap.size, 2, none⟩ = some (.int .i64 c) ∧ W.cell? ⟨w.heap.size + 1, 0, none⟩ = some (.int .i64 p) ∧ W.cell? ⟨w.heap.size + 1, 1, none⟩ = some (.int .i64 q) ∧ W.cell? ⟨g, 0, none⟩ = some (.int .i64 m) ∧ W.cell? ⟨g, 1, none⟩ = some (.int .i64 n) ∧ W.cell? ⟨g, 2, none⟩ = some (.int .i64 o) ∧ g < W.heap.size ∧ Below w.heap.size w W ∧ w.heap.size + 2 ≤ W.heap.size) : (W.alloc ob).cell? ⟨w.heap.size, 0, none⟩ = some (.int .i64 a) ∧ (W.alloc ob).cell? ⟨w.heap.size, 1, none⟩ = some (.int .i64 b) ∧ (W.alloc ob).cell? ⟨w.heap.size, 2, none⟩ = some (.int .i64 c) ∧ (W.alloc ob).cell? ⟨w.heap.size + 1, 0, none⟩ = some (.int .i64 p) ∧ (W.alloc ob).cell? ⟨w.heap.size + 1, 1, none⟩ = some (.int .i64 q) ∧ (W.alloc ob).cell? ⟨g, 0, none⟩ = some (.int .i64 m) ∧ (W.alloc ob).cell? ⟨g, 1, none⟩ = some (.int .i64 n) ∧ (W.alloc ob).cell? ⟨g, 2, none⟩ = some (.int .i64 o) ∧ g < (W.alloc ob).heap.size ∧ Below w.heap.size w (W.alloc ob) ∧ w.heap.size + 2 ≤ (W.alloc ob).heap.size := lj_keep ((Below.refl _ _).alloc (Nat.le_refl _) _) h

theorem lj_drew {g : Nat} {a b c p q m n o : Int} {w W : World} (h : W.cell? ⟨w.heap.size, 0, none⟩ = some (.int .i64 a) ∧ W.cell? ⟨w.heap.size, 1, none⟩ = some (.int .i64 b) ∧ W.cell? ⟨w.heap.size, 2, none⟩ = some (.int .i64 c) ∧ W.cell? ⟨w.heap.size + 1, 0, none⟩ = some (.int .i64 p) ∧ W.cell? ⟨w.heap.size + 1, 1, none⟩ = some (.int .i64 q) ∧ W.cell? ⟨g, 0, none⟩ = some (.int .i64 m) ∧ W.cell? ⟨g, 1, none⟩ = some (.int .i64 n) ∧ W.cell? ⟨g, 2, none⟩ = some (.int .i64 o) ∧ g < W.heap.size ∧ Below w.heap.size w W ∧ w.heap.size + 2 ≤ W.heap.size) : W.drew.cell? ⟨w.heap.size, 0, none⟩ = some (.int .i64 a) ∧ W.drew.cell? ⟨w.heap.size, 1, none⟩ = some (.int .i64 b) ∧ W.drew.cell? ⟨w.heap.size, 2, none⟩ = some (.int .i64 c) ∧ W.drew.cell? ⟨w.heap.size + 1, 0, none⟩ = some (.int .i64 p) ∧ W.drew.cell? ⟨w.heap.size + 1, 1, none⟩ = some (.int .i64 q) ∧ W.drew.cell? ⟨g, 0, none⟩ = some (.int .i64 m) ∧ W.drew.cell? ⟨g, 1, none⟩ = some (.int .i64 n) ∧ W.drew.cell? ⟨g, 2, none⟩ = some (.int .i64 o) ∧ g < W.drew.heap.size ∧ Below w.heap.size w W.drew ∧ w.heap.size + 2 ≤ W.drew.heap.size := by
  obtain ⟨c0, c1, c2, c3, c4, c5, c6, c7, g0, hB, hz⟩ := h
  exact ⟨c0, c1, c2, c3, c4, c5, c6, c7, g0, hB.drew, hz⟩

theorem lj_below {g : Nat} {a b c p q m n o : Int} {w W : World} (h : W.cell? ⟨w.heap.size, 0, none⟩ = some (.int .i64 a) ∧ W.cell? ⟨w.heap.size, 1, none⟩ = some (.int .i64 b) ∧ W.cell? ⟨w.heap.size, 2, none⟩ = some (.int .i64 c) ∧ W.cell? ⟨w.heap.size + 1, 0, none⟩ = some (.int .i64 p) ∧ W.cell? ⟨w.heap.size + 1, 1, none⟩ = some (.int .i64 q) ∧ W.cell? ⟨g, 0, none⟩ = some (.int .i64 m) ∧ W.cell? ⟨g, 1, none⟩ = some (.int .i64 n) ∧ W.cell? ⟨g, 2, none⟩ = some (.int .i64 o) ∧ g < W.heap.size ∧ Below w.heap.size w W ∧ w.heap.size + 2 ≤ W.heap.size) : Below w.heap.size w W := by
  obtain ⟨c0, c1, c2, c3, c4, c5, c6, c7, g0, hB, hz⟩ := h
  exact hB

theorem lj_size {g : Nat} {a b c p q m n o : Int} {w W : World} (h : W.cell? ⟨w.heap.size, 0, none⟩ = some (.int .i64 a) ∧ W.cell? ⟨w.heap.size, 1, none⟩ = some (.int .i64 b) ∧ W.cell? ⟨w.heap.size, 2, none⟩ = some (.int .i64 c) ∧ W.cell? ⟨w.heap.size + 1, 0, none⟩ = some (.int .i64 p) ∧ W.cell? ⟨w.heap.size + 1, 1, none⟩ = some (.int .i64 q) ∧ W.cell? ⟨g, 0, none⟩ = some (.int .i64 m) ∧ W.cell? ⟨g, 1, none⟩ = some (.int .i64 n) ∧ W.cell? ⟨g, 2, none⟩ = some (.int .i64 o) ∧ g < W.heap.size ∧ Below w.heap.size w W ∧ w.heap.size + 2 ≤ W.heap.size) : w.heap.size + 2 ≤ W.heap.size := by
  obtain ⟨c0, c1, c2, c3, c4, c5, c6, c7, g0, hB, hz⟩ := h
  exact hz

theorem lj_set {g : Nat} {a b c p q m n o : Int} {w W : World} {t j : Nat} {u : Value} (h : W.cell? ⟨w.heap.size, 0, none⟩ = some (.int .i64 a) ∧ W.cell? ⟨w.heap.size, 1, none⟩ = some (.int .i64 b) ∧ W.cell? ⟨w.heap.size, 2, none⟩ = some (.int .i64 c) ∧ W.cell? ⟨w.heap.size + 1, 0, none⟩ = some (.int .i64 p) ∧ W.cell? ⟨w.heap.size + 1, 1, none⟩ = some (.int .i64 q) ∧ W.cell? ⟨g, 0, none⟩ = some (.int .i64 m) ∧ W.cell? ⟨g, 1, none⟩ = some (.int .i64 n) ∧ W.cell? ⟨g, 2, none⟩ = some (.int .i64 o) ∧ g < W.heap.size ∧ Below w.heap.size w W ∧ w.heap.size + 2 ≤ W.heap.size) (ht : w.heap.size + 2 ≤ t) (hn_g : g < t) : (W.setCell ⟨t, j, none⟩ u).cell? ⟨w.heap.size, 0, none⟩ = some (.int .i64 a) ∧ (W.setCell ⟨t, j, none⟩ u).cell? ⟨w.heap.size, 1, none⟩ = some (.int .i64 b) ∧ (W.setCell ⟨t, j, none⟩ u).cell? ⟨w.heap.size, 2, none⟩ = some (.int .i64 c) ∧ (W.setCell ⟨t, j, none⟩ u).cell? ⟨w.heap.size + 1, 0, none⟩ = some (.int .i64 p) ∧ (W.setCell ⟨t, j, none⟩ u).cell? ⟨w.heap.size + 1, 1, none⟩ = some (.int .i64 q) ∧ (W.setCell ⟨t, j, none⟩ u).cell? ⟨g, 0, none⟩ = some (.int .i64 m) ∧ (W.setCell ⟨t, j, none⟩ u).cell? ⟨g, 1, none⟩ = some (.int .i64 n) ∧ (W.setCell ⟨t, j, none⟩ u).cell? ⟨g, 2, none⟩ = some (.int .i64 o) ∧ g < (W.setCell ⟨t, j, none⟩ u).heap.size ∧ Below w.heap.size w (W.setCell ⟨t, j, none⟩ u) ∧ w.heap.size + 2 ≤ (W.setCell ⟨t, j, none⟩ u).heap.size := by
  obtain ⟨c0, c1, c2, c3, c4, c5, c6, c7, g0, hB, hz⟩ := h
  exact ⟨cell_set c0 (by omega), cell_set c1 (by omega), cell_set c2 (by omega), cell_set c3 (by omega), cell_set c4 (by omega), cell_set c5 (by omega), cell_set c6 (by omega), cell_set c7 (by omega), by simpa [World.setCell] using g0, hB.setCell (by simp; omega) _, by simpa [World.setCell] using hz⟩

set_option maxHeartbeats 1000000 in
theorem vvhas_law (a b c : Int) (_wa : (Lit.int .i64 a).wf = true) (_wb : (Lit.int .i64 b).wf = true) (_wc : (Lit.int .i64 c).wf = true) (p q : Int) (_wp : (Lit.int .i64 p).wf = true) (_wq : (Lit.int .i64 q).wf = true) (w : World) :
    Calls Try.prog 6 #[.agg #[.int .i64 a, .int .i64 b, .int .i64 c], .agg #[.int .i64 p, .int .i64 q]] w fun e w' => e = .returned (.bool true) ∧ Below w.heap.size w w' := by
  clear _wa _wb _wc _wp _wq
  obtain ⟨m, hm⟩ : ∃ m, m = hasV (vvB a b c && dotB p q) (comp a b c p) q := ⟨_, rfl⟩
  obtain ⟨k, hk⟩ : ∃ k, k = okD (vvB a b c && dotB p q) := ⟨_, rfl⟩
  have C1 := fun W => spec_has a b c p q W
  have C2 := fun W => impl_has a b c p q W
  rw [← hm, ← hk] at C1 C2
  have D1 : Hid (∀ W, Calls Try.prog 17 #[.agg #[.int .i64 a, .int .i64 b, .int .i64 c], .agg #[.int .i64 p, .int .i64 q]] W fun e w' => e = .returned (.tuple #[.bool m, .int .i64 k]) ∧ Below W.heap.size W w') := C1
  have D2 : Hid (∀ W, Calls Try.prog 19 #[.agg #[.int .i64 a, .int .i64 b, .int .i64 c], .agg #[.int .i64 p, .int .i64 q]] W fun e w' => e = .returned (.tuple #[.bool m, .int .i64 k]) ∧ Below W.heap.size W w') := C2
  clear C1 C2 hm hk
  go_enter Try.func6, Try.ntmps6
  go_wp2_with fail
  go_region_held3 (fun w' => w'.cell? ⟨w.heap.size, 0, none⟩ = some (.int .i64 a) ∧ w'.cell? ⟨w.heap.size, 1, none⟩ = some (.int .i64 b) ∧ w'.cell? ⟨w.heap.size, 2, none⟩ = some (.int .i64 c) ∧ w'.cell? ⟨w.heap.size + 1, 0, none⟩ = some (.int .i64 p) ∧ w'.cell? ⟨w.heap.size + 1, 1, none⟩ = some (.int .i64 q) ∧ Below w.heap.size w w' ∧ w.heap.size + 2 ≤ w'.heap.size) (with_reducible first | assumption | exact lh_start | exact lh_drew (lh_alloc lh_start0) | (refine lh_drew (lh_alloc ?_); assumption) | (refine lh_drew ?_; assumption) | (refine lh_alloc ?_; assumption) | (refine lh_keep (by assumption) ?_; assumption) | (refine lh_set (lh_set (lh_set ?_ ?_) ?_) ?_; all_goals (first | assumption | omega))) (first | (go_at_call 10; refine (toVv_any _ _ _ _).mono ?_; rintro e w' ⟨rfl, hb⟩) | (go_at_call 18; refine (toDot_any _ _ _).mono ?_; rintro e w' ⟨rfl, hb⟩) | (go_at_call 17; refine (D1.out _).mono ?_; rintro e w' ⟨rfl, hb⟩))
  go_wp2_with fail
  go_region_held3 (fun w' => w'.cell? ⟨w.heap.size, 0, none⟩ = some (.int .i64 a) ∧ w'.cell? ⟨w.heap.size, 1, none⟩ = some (.int .i64 b) ∧ w'.cell? ⟨w.heap.size, 2, none⟩ = some (.int .i64 c) ∧ w'.cell? ⟨w.heap.size + 1, 0, none⟩ = some (.int .i64 p) ∧ w'.cell? ⟨w.heap.size + 1, 1, none⟩ = some (.int .i64 q) ∧ Below w.heap.size w w' ∧ w.heap.size + 2 ≤ w'.heap.size) (with_reducible first | assumption | exact lh_start | exact lh_drew (lh_alloc lh_start0) | (refine lh_drew (lh_alloc ?_); assumption) | (refine lh_drew ?_; assumption) | (refine lh_alloc ?_; assumption) | (refine lh_keep (by assumption) ?_; assumption) | (refine lh_set (lh_set (lh_set ?_ ?_) ?_) ?_; all_goals (first | assumption | omega))) (first | (go_at_call 10; refine (toVv_any _ _ _ _).mono ?_; rintro e w' ⟨rfl, hb⟩) | (go_at_call 18; refine (toDot_any _ _ _).mono ?_; rintro e w' ⟨rfl, hb⟩) | (go_at_call 19; refine (D2.out _).mono ?_; rintro e w' ⟨rfl, hb⟩))
  go_wp2
  go_ret
  exact ⟨rfl, lh_below (by with_reducible assumption)⟩

theorem lj_of {g : Nat} {a b c p q m n o : Int} {w W : World} (h : W.cell? ⟨w.heap.size, 0, none⟩ = some (.int .i64 a) ∧ W.cell? ⟨w.heap.size, 1, none⟩ = some (.int .i64 b) ∧ W.cell? ⟨w.heap.size, 2, none⟩ = some (.int .i64 c) ∧ W.cell? ⟨w.heap.size + 1, 0, none⟩ = some (.int .i64 p) ∧ W.cell? ⟨w.heap.size + 1, 1, none⟩ = some (.int .i64 q) ∧ Below w.heap.size w W ∧ w.heap.size + 2 ≤ W.heap.size) (g0 : W.cell? ⟨g, 0, none⟩ = some (.int .i64 m)) (g1 : W.cell? ⟨g, 1, none⟩ = some (.int .i64 n)) (g2 : W.cell? ⟨g, 2, none⟩ = some (.int .i64 o)) (hg : g < W.heap.size) : W.cell? ⟨w.heap.size, 0, none⟩ = some (.int .i64 a) ∧ W.cell? ⟨w.heap.size, 1, none⟩ = some (.int .i64 b) ∧ W.cell? ⟨w.heap.size, 2, none⟩ = some (.int .i64 c) ∧ W.cell? ⟨w.heap.size + 1, 0, none⟩ = some (.int .i64 p) ∧ W.cell? ⟨w.heap.size + 1, 1, none⟩ = some (.int .i64 q) ∧ W.cell? ⟨g, 0, none⟩ = some (.int .i64 m) ∧ W.cell? ⟨g, 1, none⟩ = some (.int .i64 n) ∧ W.cell? ⟨g, 2, none⟩ = some (.int .i64 o) ∧ g < W.heap.size ∧ Below w.heap.size w W ∧ w.heap.size + 2 ≤ W.heap.size := by
  obtain ⟨c0, c1, c2, c3, c4, hB, hz⟩ := h
  exact ⟨c0, c1, c2, c3, c4, g0, g1, g2, hg, hB, hz⟩

theorem lj_last {g t : Nat} {a b c p q m n o : Int} {w W : World} (h : W.cell? ⟨w.heap.size, 0, none⟩ = some (.int .i64 a) ∧ W.cell? ⟨w.heap.size, 1, none⟩ = some (.int .i64 b) ∧ W.cell? ⟨w.heap.size, 2, none⟩ = some (.int .i64 c) ∧ W.cell? ⟨w.heap.size + 1, 0, none⟩ = some (.int .i64 p) ∧ W.cell? ⟨w.heap.size + 1, 1, none⟩ = some (.int .i64 q) ∧ W.cell? ⟨g, 0, none⟩ = some (.int .i64 m) ∧ W.cell? ⟨g, 1, none⟩ = some (.int .i64 n) ∧ W.cell? ⟨g, 2, none⟩ = some (.int .i64 o) ∧ g < W.heap.size ∧ Below w.heap.size w W ∧ w.heap.size + 2 ≤ W.heap.size) (g0 : W.cell? ⟨t, 0, none⟩ = some (.int .i64 m)) (g1 : W.cell? ⟨t, 1, none⟩ = some (.int .i64 n)) (g2 : W.cell? ⟨t, 2, none⟩ = some (.int .i64 o)) : W.cell? ⟨g, 0, none⟩ = some (.int .i64 m) ∧ W.cell? ⟨g, 1, none⟩ = some (.int .i64 n) ∧ W.cell? ⟨g, 2, none⟩ = some (.int .i64 o) ∧ W.cell? ⟨t, 0, none⟩ = some (.int .i64 m) ∧ W.cell? ⟨t, 1, none⟩ = some (.int .i64 n) ∧ W.cell? ⟨t, 2, none⟩ = some (.int .i64 o) ∧ Below w.heap.size w W := by
  obtain ⟨c0, c1, c2, c3, c4, c6, c7, c8, hg, hB, hz⟩ := h
  exact ⟨c6, c7, c8, g0, g1, g2, hB⟩
end Go.Proofs.Ytbleofekjjcnjah

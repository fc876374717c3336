/- VvHas and VvAdd of the program and of the specification answer alike. -/
import Derived.Test.YtfmkpiejnfdklaaRows
import Derived.WalkKit
import Derived.WalkSpells
import Derived.WalkLawsBesides
import Derived.Deep.QuietTactic
import Derived.BigQuiet
import Derived.Deep.RegionHeld3
import Derived.LoopN
import Derived.RegionTactic
import Derived.BigRegion
import Derived.Deep.DeepCutAuto
import Derived.Test.YtfmkpiejnfdklaaHb
namespace Go.Proofs.Ytfmkpiejnfdklaa
open Go.RowKit
set_option linter.unusedSimpArgs false
set_option linter.unusedVariables false


set_option maxHeartbeats 1000000 in
theorem knows_0true (a b c q : Int) (w : World) (hq : q ≤ a) :
    Calls Try.prog 17 #[.agg #[.int .i64 a, .int .i64 b, .int .i64 c], .agg #[.int .i64 0, .int .i64 q]] w fun e w' => e = .returned (.bool true) ∧ Below w.heap.size w w' := by
  have dq : decide (q ≤ a) = true := by simp; omega
  go_enter Try.func17, Try.ntmps17
  go_wp2
  go_quiet (fail)
  go_wp2
  go_ret
  refine ⟨ret_bool (by simp [dq]), ?_⟩
  repeat (first | exact Below.refl _ _ | refine Below.drew ?_ | refine below_drewN ?_ _ | refine Below.alloc ?_ (by first | (simp; done) | (simp; omega)) _ | refine Below.setCell ?_ (by first | (simp; done) | (simp; omega)) _)

set_option maxHeartbeats 1000000 in
theorem impl_has_0true (a b c q : Int) (w : World) (h : vvB a b c = true) (h' : dotB 0 q = true) (hq : q ≤ a) :
    Calls Try.prog 8 #[.agg #[.int .i64 a, .int .i64 b, .int .i64 c], .agg #[.int .i64 0, .int .i64 q]] w fun e w' => e = .returned (.tuple #[.bool true, .int .i64 0]) ∧ Below w.heap.size w w' := by
  have HQ : Hid (q ≤ a) := hq
  clear hq
  go_enter Try.func8, Try.ntmps8
  go_wp2_with fail
  refine (impl_vv _ _ _ _).mono ?_
  rintro e w1 ⟨rfl, hb⟩
  have hS1 := vh_keep hb vh_start0
  clear hb
  obtain ⟨_c0, _c1, _c2, _c3, _c4, _hB, _hz⟩ := id hS1
  go_wp2_with fail
  refine (impl_dot _ _ _).mono ?_
  rintro e w2 ⟨rfl, hb⟩
  have hS2 := vh_keep hb hS1
  clear hb
  obtain ⟨_c0, _c1, _c2, _c3, _c4, _hB, _hz⟩ := id hS2
  go_wp2_with fail
  refine (knows_0true a b c q _ HQ.out).mono ?_
  rintro e w3 ⟨rfl, hb⟩
  have hS3 := vh_keep hb hS2
  clear hb
  obtain ⟨_c0, _c1, _c2, _c3, _c4, _hB, _hz⟩ := id hS3
  go_wp2_with fail
  go_ret2
  exact ⟨rfl, _hB⟩

set_option maxHeartbeats 1000000 in
theorem knows_0false (a b c q : Int) (w : World) (hq : a < q) :
    Calls Try.prog 17 #[.agg #[.int .i64 a, .int .i64 b, .int .i64 c], .agg #[.int .i64 0, .int .i64 q]] w fun e w' => e = .returned (.bool false) ∧ Below w.heap.size w w' := by
  have dq : decide (q ≤ a) = false := by simp; omega
  go_enter Try.func17, Try.ntmps17
  go_wp2
  go_quiet (fail)
  go_wp2
  go_ret
  refine ⟨ret_bool (by simp [dq]), ?_⟩
  repeat (first | exact Below.refl _ _ | refine Below.drew ?_ | refine below_drewN ?_ _ | refine Below.alloc ?_ (by first | (simp; done) | (simp; omega)) _ | refine Below.setCell ?_ (by first | (simp; done) | (simp; omega)) _)

set_option maxHeartbeats 1000000 in
theorem impl_has_0false (a b c q : Int) (w : World) (h : vvB a b c = true) (h' : dotB 0 q = true) (hq : a < q) :
    Calls Try.prog 8 #[.agg #[.int .i64 a, .int .i64 b, .int .i64 c], .agg #[.int .i64 0, .int .i64 q]] w fun e w' => e = .returned (.tuple #[.bool false, .int .i64 0]) ∧ Below w.heap.size w w' := by
  have HQ : Hid (a < q) := hq
  clear hq
  go_enter Try.func8, Try.ntmps8
  go_wp2_with fail
  refine (impl_vv _ _ _ _).mono ?_
  rintro e w1 ⟨rfl, hb⟩
  have hS1 := vh_keep hb vh_start0
  clear hb
  obtain ⟨_c0, _c1, _c2, _c3, _c4, _hB, _hz⟩ := id hS1
  go_wp2_with fail
  refine (impl_dot _ _ _).mono ?_
  rintro e w2 ⟨rfl, hb⟩
  have hS2 := vh_keep hb hS1
  clear hb
  obtain ⟨_c0, _c1, _c2, _c3, _c4, _hB, _hz⟩ := id hS2
  go_wp2_with fail
  refine (knows_0false a b c q _ HQ.out).mono ?_
  rintro e w3 ⟨rfl, hb⟩
  have hS3 := vh_keep hb hS2
  clear hb
  obtain ⟨_c0, _c1, _c2, _c3, _c4, _hB, _hz⟩ := id hS3
  go_wp2_with fail
  go_ret2
  exact ⟨rfl, _hB⟩

set_option maxHeartbeats 1000000 in
theorem knows_1true (a b c q : Int) (w : World) (hq : q ≤ b) :
    Calls Try.prog 17 #[.agg #[.int .i64 a, .int .i64 b, .int .i64 c], .agg #[.int .i64 1, .int .i64 q]] w fun e w' => e = .returned (.bool true) ∧ Below w.heap.size w w' := by
  have dq : decide (q ≤ b) = true := by simp; omega
  go_enter Try.func17, Try.ntmps17
  go_wp2
  go_quiet (fail)
  go_wp2
  go_ret
  refine ⟨ret_bool (by simp [dq]), ?_⟩
  repeat (first | exact Below.refl _ _ | refine Below.drew ?_ | refine below_drewN ?_ _ | refine Below.alloc ?_ (by first | (simp; done) | (simp; omega)) _ | refine Below.setCell ?_ (by first | (simp; done) | (simp; omega)) _)

set_option maxHeartbeats 1000000 in
theorem impl_has_1true (a b c q : Int) (w : World) (h : vvB a b c = true) (h' : dotB 1 q = true) (hq : q ≤ b) :
    Calls Try.prog 8 #[.agg #[.int .i64 a, .int .i64 b, .int .i64 c], .agg #[.int .i64 1, .int .i64 q]] w fun e w' => e = .returned (.tuple #[.bool true, .int .i64 0]) ∧ Below w.heap.size w w' := by
  have HQ : Hid (q ≤ b) := hq
  clear hq
  go_enter Try.func8, Try.ntmps8
  go_wp2_with fail
  refine (impl_vv _ _ _ _).mono ?_
  rintro e w1 ⟨rfl, hb⟩
  have hS1 := vh_keep hb vh_start0
  clear hb
  obtain ⟨_c0, _c1, _c2, _c3, _c4, _hB, _hz⟩ := id hS1
  go_wp2_with fail
  refine (impl_dot _ _ _).mono ?_
  rintro e w2 ⟨rfl, hb⟩
  have hS2 := vh_keep hb hS1
  clear hb
  obtain ⟨_c0, _c1, _c2, _c3, _c4, _hB, _hz⟩ := id hS2
  go_wp2_with fail
  refine (knows_1true a b c q _ HQ.out).mono ?_
  rintro e w3 ⟨rfl, hb⟩
  have hS3 := vh_keep hb hS2
  clear hb
  obtain ⟨_c0, _c1, _c2, _c3, _c4, _hB, _hz⟩ := id hS3
  go_wp2_with fail
  go_ret2
  exact ⟨rfl, _hB⟩

set_option maxHeartbeats 1000000 in
theorem knows_1false (a b c q : Int) (w : World) (hq : b < q) :
    Calls Try.prog 17 #[.agg #[.int .i64 a, .int .i64 b, .int .i64 c], .agg #[.int .i64 1, .int .i64 q]] w fun e w' => e = .returned (.bool false) ∧ Below w.heap.size w w' := by
  have dq : decide (q ≤ b) = false := by simp; omega
  go_enter Try.func17, Try.ntmps17
  go_wp2
  go_quiet (fail)
  go_wp2
  go_ret
  refine ⟨ret_bool (by simp [dq]), ?_⟩
  repeat (first | exact Below.refl _ _ | refine Below.drew ?_ | refine below_drewN ?_ _ | refine Below.alloc ?_ (by first | (simp; done) | (simp; omega)) _ | refine Below.setCell ?_ (by first | (simp; done) | (simp; omega)) _)

set_option maxHeartbeats 1000000 in
theorem impl_has_1false (a b c q : Int) (w : World) (h : vvB a b c = true) (h' : dotB 1 q = true) (hq : b < q) :
    Calls Try.prog 8 #[.agg #[.int .i64 a, .int .i64 b, .int .i64 c], .agg #[.int .i64 1, .int .i64 q]] w fun e w' => e = .returned (.tuple #[.bool false, .int .i64 0]) ∧ Below w.heap.size w w' := by
  have HQ : Hid (b < q) := hq
  clear hq
  go_enter Try.func8, Try.ntmps8
  go_wp2_with fail
  refine (impl_vv _ _ _ _).mono ?_
  rintro e w1 ⟨rfl, hb⟩
  have hS1 := vh_keep hb vh_start0
  clear hb
  obtain ⟨_c0, _c1, _c2, _c3, _c4, _hB, _hz⟩ := id hS1
  go_wp2_with fail
  refine (impl_dot _ _ _).mono ?_
  rintro e w2 ⟨rfl, hb⟩
  have hS2 := vh_keep hb hS1
  clear hb
  obtain ⟨_c0, _c1, _c2, _c3, _c4, _hB, _hz⟩ := id hS2
  go_wp2_with fail
  refine (knows_1false a b c q _ HQ.out).mono ?_
  rintro e w3 ⟨rfl, hb⟩
  have hS3 := vh_keep hb hS2
  clear hb
  obtain ⟨_c0, _c1, _c2, _c3, _c4, _hB, _hz⟩ := id hS3
  go_wp2_with fail
  go_ret2
  exact ⟨rfl, _hB⟩

set_option maxHeartbeats 1000000 in
theorem knows_2true (a b c q : Int) (w : World) (hq : q ≤ c) :
    Calls Try.prog 17 #[.agg #[.int .i64 a, .int .i64 b, .int .i64 c], .agg #[.int .i64 2, .int .i64 q]] w fun e w' => e = .returned (.bool true) ∧ Below w.heap.size w w' := by
  have dq : decide (q ≤ c) = true := by simp; omega
  go_enter Try.func17, Try.ntmps17
  go_wp2
  go_quiet (fail)
  go_wp2
  go_ret
  refine ⟨ret_bool (by simp [dq]), ?_⟩
  repeat (first | exact Below.refl _ _ | refine Below.drew ?_ | refine below_drewN ?_ _ | refine Below.alloc ?_ (by first | (simp; done) | (simp; omega)) _ | refine Below.setCell ?_ (by first | (simp; done) | (simp; omega)) _)

set_option maxHeartbeats 1000000 in
theorem impl_has_2true (a b c q : Int) (w : World) (h : vvB a b c = true) (h' : dotB 2 q = true) (hq : q ≤ c) :
    Calls Try.prog 8 #[.agg #[.int .i64 a, .int .i64 b, .int .i64 c], .agg #[.int .i64 2, .int .i64 q]] w fun e w' => e = .returned (.tuple #[.bool true, .int .i64 0]) ∧ Below w.heap.size w w' := by
  have HQ : Hid (q ≤ c) := hq
  clear hq
  go_enter Try.func8, Try.ntmps8
  go_wp2_with fail
  refine (impl_vv _ _ _ _).mono ?_
  rintro e w1 ⟨rfl, hb⟩
  have hS1 := vh_keep hb vh_start0
  clear hb
  obtain ⟨_c0, _c1, _c2, _c3, _c4, _hB, _hz⟩ := id hS1
  go_wp2_with fail
  refine (impl_dot _ _ _).mono ?_
  rintro e w2 ⟨rfl, hb⟩
  have hS2 := vh_keep hb hS1
  clear hb
  obtain ⟨_c0, _c1, _c2, _c3, _c4, _hB, _hz⟩ := id hS2
  go_wp2_with fail
  refine (knows_2true a b c q _ HQ.out).mono ?_
  rintro e w3 ⟨rfl, hb⟩
  have hS3 := vh_keep hb hS2
  clear hb
  obtain ⟨_c0, _c1, _c2, _c3, _c4, _hB, _hz⟩ := id hS3
  go_wp2_with fail
  go_ret2
  exact ⟨rfl, _hB⟩

set_option maxHeartbeats 1000000 in
theorem knows_2false (a b c q : Int) (w : World) (hq : c < q) :
    Calls Try.prog 17 #[.agg #[.int .i64 a, .int .i64 b, .int .i64 c], .agg #[.int .i64 2, .int .i64 q]] w fun e w' => e = .returned (.bool false) ∧ Below w.heap.size w w' := by
  have dq : decide (q ≤ c) = false := by simp; omega
  go_enter Try.func17, Try.ntmps17
  go_wp2
  go_quiet (fail)
  go_wp2
  go_ret
  refine ⟨ret_bool (by simp [dq]), ?_⟩
  repeat (first | exact Below.refl _ _ | refine Below.drew ?_ | refine below_drewN ?_ _ | refine Below.alloc ?_ (by first | (simp; done) | (simp; omega)) _ | refine Below.setCell ?_ (by first | (simp; done) | (simp; omega)) _)

set_option maxHeartbeats 1000000 in
theorem impl_has_2false (a b c q : Int) (w : World) (h : vvB a b c = true) (h' : dotB 2 q = true) (hq : c < q) :
    Calls Try.prog 8 #[.agg #[.int .i64 a, .int .i64 b, .int .i64 c], .agg #[.int .i64 2, .int .i64 q]] w fun e w' => e = .returned (.tuple #[.bool false, .int .i64 0]) ∧ Below w.heap.size w w' := by
  have HQ : Hid (c < q) := hq
  clear hq
  go_enter Try.func8, Try.ntmps8
  go_wp2_with fail
  refine (impl_vv _ _ _ _).mono ?_
  rintro e w1 ⟨rfl, hb⟩
  have hS1 := vh_keep hb vh_start0
  clear hb
  obtain ⟨_c0, _c1, _c2, _c3, _c4, _hB, _hz⟩ := id hS1
  go_wp2_with fail
  refine (impl_dot _ _ _).mono ?_
  rintro e w2 ⟨rfl, hb⟩
  have hS2 := vh_keep hb hS1
  clear hb
  obtain ⟨_c0, _c1, _c2, _c3, _c4, _hB, _hz⟩ := id hS2
  go_wp2_with fail
  refine (knows_2false a b c q _ HQ.out).mono ?_
  rintro e w3 ⟨rfl, hb⟩
  have hS3 := vh_keep hb hS2
  clear hb
  obtain ⟨_c0, _c1, _c2, _c3, _c4, _hB, _hz⟩ := id hS3
  go_wp2_with fail
  go_ret2
  exact ⟨rfl, _hB⟩

def okD (t : Bool) : Int := if t = true then 0 else 1

def hasV (t : Bool) (x q : Int) : Bool := t && decide (q ≤ x)

def addV (t : Bool) (i p x q : Int) : Int := if t = true then (if p = i ∧ x < q then q else x) else 0

theorem spec_has (a b c p q : Int) (w : World) :
    Calls Try.prog 5 #[.agg #[.int .i64 a, .int .i64 b, .int .i64 c], .agg #[.int .i64 p, .int .i64 q]] w fun e w' => e = .returned (.tuple #[.bool (hasV (vvB a b c && dotB p q) (comp a b c p) q), .int .i64 (okD (vvB a b c && dotB p q))]) ∧ Below w.heap.size w w' := by
  cases h1 : vvB a b c
  · exact (spec_has_bad1 a b c p q w h1).mono fun e w' ⟨he, hb⟩ => ⟨he.trans (ret_bint (by simp [hasV]) (by simp [okD])), hb⟩
  · cases h2 : dotB p q
    · exact (spec_has_bad2 a b c p q w h1 h2).mono fun e w' ⟨he, hb⟩ => ⟨he.trans (ret_bint (by simp [hasV]) (by simp [okD])), hb⟩
    · rcases dot_node h2 with hp | hp | hp <;> subst hp
      · by_cases hq : q ≤ a
        · exact (spec_has_0true a b c q w h1 h2 hq).mono fun e w' ⟨he, hb⟩ => ⟨he.trans (ret_bint (by simp [hasV, comp, hq]) (by simp [okD])), hb⟩
        · exact (spec_has_0false a b c q w h1 h2 (by omega)).mono fun e w' ⟨he, hb⟩ => ⟨he.trans (ret_bint (by simp [hasV, comp, hq]) (by simp [okD])), hb⟩
      · by_cases hq : q ≤ b
        · exact (spec_has_1true a b c q w h1 h2 hq).mono fun e w' ⟨he, hb⟩ => ⟨he.trans (ret_bint (by simp [hasV, comp, hq]) (by simp [okD])), hb⟩
        · exact (spec_has_1false a b c q w h1 h2 (by omega)).mono fun e w' ⟨he, hb⟩ => ⟨he.trans (ret_bint (by simp [hasV, comp, hq]) (by simp [okD])), hb⟩
      · by_cases hq : q ≤ c
        · exact (spec_has_2true a b c q w h1 h2 hq).mono fun e w' ⟨he, hb⟩ => ⟨he.trans (ret_bint (by simp [hasV, comp, hq]) (by simp [okD])), hb⟩
        · exact (spec_has_2false a b c q w h1 h2 (by omega)).mono fun e w' ⟨he, hb⟩ => ⟨he.trans (ret_bint (by simp [hasV, comp, hq]) (by simp [okD])), hb⟩

theorem impl_has (a b c p q : Int) (w : World) :
    Calls Try.prog 8 #[.agg #[.int .i64 a, .int .i64 b, .int .i64 c], .agg #[.int .i64 p, .int .i64 q]] w fun e w' => e = .returned (.tuple #[.bool (hasV (vvB a b c && dotB p q) (comp a b c p) q), .int .i64 (okD (vvB a b c && dotB p q))]) ∧ Below w.heap.size w w' := by
  cases h1 : vvB a b c
  · exact (impl_has_bad1 a b c p q w h1).mono fun e w' ⟨he, hb⟩ => ⟨he.trans (ret_bint (by simp [hasV]) (by simp [okD])), hb⟩
  · cases h2 : dotB p q
    · exact (impl_has_bad2 a b c p q w h1 h2).mono fun e w' ⟨he, hb⟩ => ⟨he.trans (ret_bint (by simp [hasV]) (by simp [okD])), hb⟩
    · rcases dot_node h2 with hp | hp | hp <;> subst hp
      · by_cases hq : q ≤ a
        · exact (impl_has_0true a b c q w h1 h2 hq).mono fun e w' ⟨he, hb⟩ => ⟨he.trans (ret_bint (by simp [hasV, comp, hq]) (by simp [okD])), hb⟩
        · exact (impl_has_0false a b c q w h1 h2 (by omega)).mono fun e w' ⟨he, hb⟩ => ⟨he.trans (ret_bint (by simp [hasV, comp, hq]) (by simp [okD])), hb⟩
      · by_cases hq : q ≤ b
        · exact (impl_has_1true a b c q w h1 h2 hq).mono fun e w' ⟨he, hb⟩ => ⟨he.trans (ret_bint (by simp [hasV, comp, hq]) (by simp [okD])), hb⟩
        · exact (impl_has_1false a b c q w h1 h2 (by omega)).mono fun e w' ⟨he, hb⟩ => ⟨he.trans (ret_bint (by simp [hasV, comp, hq]) (by simp [okD])), hb⟩
      · by_cases hq : q ≤ c
        · exact (impl_has_2true a b c q w h1 h2 hq).mono fun e w' ⟨he, hb⟩ => ⟨he.trans (ret_bint (by simp [hasV, comp, hq]) (by simp [okD])), hb⟩
        · exact (impl_has_2false a b c q w h1 h2 (by omega)).mono fun e w' ⟨he, hb⟩ => ⟨he.trans (ret_bint (by simp [hasV, comp, hq]) (by simp [okD])), hb⟩

theorem spec_add (a b c p q : Int) (w : World) :
    Calls Try.prog 9 #[.agg #[.int .i64 a, .int .i64 b, .int .i64 c], .agg #[.int .i64 p, .int .i64 q]] w fun e w' => e = .returned (.tuple #[.agg #[.int .i64 (addV (vvB a b c && dotB p q) 0 p a q), .int .i64 (addV (vvB a b c && dotB p q) 1 p b q), .int .i64 (addV (vvB a b c && dotB p q) 2 p c q)], .int .i64 (okD (vvB a b c && dotB p q))]) ∧ Below w.heap.size w w' := by
  cases h1 : vvB a b c
  · exact (spec_add_bad1 a b c p q w h1).mono fun e w' ⟨he, hb⟩ => ⟨he.trans (ret_vint (by simp [addV]) (by simp [addV]) (by simp [addV]) (by simp [okD])), hb⟩
  · cases h2 : dotB p q
    · exact (spec_add_bad2 a b c p q w h1 h2).mono fun e w' ⟨he, hb⟩ => ⟨he.trans (ret_vint (by simp [addV]) (by simp [addV]) (by simp [addV]) (by simp [okD])), hb⟩
    · rcases dot_node h2 with hp | hp | hp <;> subst hp
      · by_cases hq : a < q
        · exact (spec_add_0lt a b c q w h1 h2 hq).mono fun e w' ⟨he, hb⟩ => ⟨he.trans (ret_vint (by simp [addV, hq]) (by simp [addV, hq]) (by simp [addV, hq]) (by simp [okD])), hb⟩
        · exact (spec_add_0ge a b c q w h1 h2 (by omega)).mono fun e w' ⟨he, hb⟩ => ⟨he.trans (ret_vint (by simp [addV, hq]) (by simp [addV, hq]) (by simp [addV, hq]) (by simp [okD])), hb⟩
      · by_cases hq : b < q
        · exact (spec_add_1lt a b c q w h1 h2 hq).mono fun e w' ⟨he, hb⟩ => ⟨he.trans (ret_vint (by simp [addV, hq]) (by simp [addV, hq]) (by simp [addV, hq]) (by simp [okD])), hb⟩
        · exact (spec_add_1ge a b c q w h1 h2 (by omega)).mono fun e w' ⟨he, hb⟩ => ⟨he.trans (ret_vint (by simp [addV, hq]) (by simp [addV, hq]) (by simp [addV, hq]) (by simp [okD])), hb⟩
      · by_cases hq : c < q
        · exact (spec_add_2lt a b c q w h1 h2 hq).mono fun e w' ⟨he, hb⟩ => ⟨he.trans (ret_vint (by simp [addV, hq]) (by simp [addV, hq]) (by simp [addV, hq]) (by simp [okD])), hb⟩
        · exact (spec_add_2ge a b c q w h1 h2 (by omega)).mono fun e w' ⟨he, hb⟩ => ⟨he.trans (ret_vint (by simp [addV, hq]) (by simp [addV, hq]) (by simp [addV, hq]) (by simp [okD])), hb⟩

theorem impl_add (a b c p q : Int) (w : World) :
    Calls Try.prog 10 #[.agg #[.int .i64 a, .int .i64 b, .int .i64 c], .agg #[.int .i64 p, .int .i64 q]] w fun e w' => e = .returned (.tuple #[.agg #[.int .i64 (addV (vvB a b c && dotB p q) 0 p a q), .int .i64 (addV (vvB a b c && dotB p q) 1 p b q), .int .i64 (addV (vvB a b c && dotB p q) 2 p c q)], .int .i64 (okD (vvB a b c && dotB p q))]) ∧ Below w.heap.size w w' := by
  cases h1 : vvB a b c
  · exact (impl_add_bad1 a b c p q w h1).mono fun e w' ⟨he, hb⟩ => ⟨he.trans (ret_vint (by simp [addV]) (by simp [addV]) (by simp [addV]) (by simp [okD])), hb⟩
  · cases h2 : dotB p q
    · exact (impl_add_bad2 a b c p q w h1 h2).mono fun e w' ⟨he, hb⟩ => ⟨he.trans (ret_vint (by simp [addV]) (by simp [addV]) (by simp [addV]) (by simp [okD])), hb⟩
    · rcases dot_node h2 with hp | hp | hp <;> subst hp
      · by_cases hq : a < q
        · exact (impl_add_0lt a b c q w h1 h2 hq).mono fun e w' ⟨he, hb⟩ => ⟨he.trans (ret_vint (by simp [addV, hq]) (by simp [addV, hq]) (by simp [addV, hq]) (by simp [okD])), hb⟩
        · exact (impl_add_0ge a b c q w h1 h2 (by omega)).mono fun e w' ⟨he, hb⟩ => ⟨he.trans (ret_vint (by simp [addV, hq]) (by simp [addV, hq]) (by simp [addV, hq]) (by simp [okD])), hb⟩
      · by_cases hq : b < q
        · exact (impl_add_1lt a b c q w h1 h2 hq).mono fun e w' ⟨he, hb⟩ => ⟨he.trans (ret_vint (by simp [addV, hq]) (by simp [addV, hq]) (by simp [addV, hq]) (by simp [okD])), hb⟩
        · exact (impl_add_1ge a b c q w h1 h2 (by omega)).mono fun e w' ⟨he, hb⟩ => ⟨he.trans (ret_vint (by simp [addV, hq]) (by simp [addV, hq]) (by simp [addV, hq]) (by simp [okD])), hb⟩
      · by_cases hq : c < q
        · exact (impl_add_2lt a b c q w h1 h2 hq).mono fun e w' ⟨he, hb⟩ => ⟨he.trans (ret_vint (by simp [addV, hq]) (by simp [addV, hq]) (by simp [addV, hq]) (by simp [okD])), hb⟩
        · exact (impl_add_2ge a b c q w h1 h2 (by omega)).mono fun e w' ⟨he, hb⟩ => ⟨he.trans (ret_vint (by simp [addV, hq]) (by simp [addV, hq]) (by simp [addV, hq]) (by simp [okD])), hb⟩

theorem lh_keep {a b c p q : Int} {w W W' : World} (hb : Below W.heap.size W W') (h : W.cell? ⟨w.heap.size, 0, none⟩ = some (.int .i64 a) ∧ W.cell? ⟨w.heap.size, 1, none⟩ = some (.int .i64 b) ∧ W.cell? ⟨w.heap.size, 2, none⟩ = some (.int .i64 c) ∧ W.cell? ⟨w.heap.size + 1, 0, none⟩ = some (.int .i64 p) ∧ W.cell? ⟨w.heap.size + 1, 1, none⟩ = some (.int .i64 q) ∧ Below w.heap.size w W ∧ w.heap.size + 2 ≤ W.heap.size) : W'.cell? ⟨w.heap.size, 0, none⟩ = some (.int .i64 a) ∧ W'.cell? ⟨w.heap.size, 1, none⟩ = some (.int .i64 b) ∧ W'.cell? ⟨w.heap.size, 2, none⟩ = some (.int .i64 c) ∧ W'.cell? ⟨w.heap.size + 1, 0, none⟩ = some (.int .i64 p) ∧ W'.cell? ⟨w.heap.size + 1, 1, none⟩ = some (.int .i64 q) ∧ Below w.heap.size w W' ∧ w.heap.size + 2 ≤ W'.heap.size := by
  obtain ⟨c0, c1, c2, c3, c4, hB, hz⟩ := h
  have hq := hb.size
  exact ⟨cell_next hb c0 (by omega), cell_next hb c1 (by omega), cell_next hb c2 (by omega), cell_next hb c3 (by omega), cell_next hb c4 (by omega), hB.trans (hb.mono (by omega)), by omega⟩

theorem lh_alloc {a b c p q : Int} {w W : World} {ob : Obj} (h : W.cell? ⟨w.heap.size, 0, none⟩ = some (.int .i64 a) ∧ W.cell? ⟨w.heap.size, 1, none⟩ = some (.int .i64 b) ∧ W.cell? ⟨w.heap.size, 2, none⟩ = some (.int .i64 c) ∧ W.cell? ⟨w.heap.size + 1, 0, none⟩ = some (.int .i64 p) ∧ W.cell? ⟨w.heap.size + 1, 1, none⟩ = some (.int .i64 q) ∧ Below w.heap.size w W ∧ w.heap.size + 2 ≤ W.heap.size) : (W.alloc ob).cell? ⟨w.heap.size, 0, none⟩ = some (.int .i64 a) ∧ (W.alloc ob).cell? ⟨w.heap.size, 1, none⟩ = some (.int .i64 b) ∧ (W.alloc ob).cell? ⟨w.heap.size, 2, none⟩ = some (.int .i64 c) ∧ (W.alloc ob).cell? ⟨w.heap.size + 1, 0, none⟩ = some (.int .i64 p) ∧ (W.alloc ob).cell? ⟨w.heap.size + 1, 1, none⟩ = some (.int .i64 q) ∧ Below w.heap.size w (W.alloc ob) ∧ w.heap.size + 2 ≤ (W.alloc ob).heap.size := lh_keep ((Below.refl _ _).alloc (Nat.le_refl _) _) h

theorem lh_drew {a b c p q : Int} {w W : World} (h : W.cell? ⟨w.heap.size, 0, none⟩ = some (.int .i64 a) ∧ W.cell? ⟨w.heap.size, 1, none⟩ = some (.int .i64 b) ∧ W.cell? ⟨w.heap.size, 2, none⟩ = some (.int .i64 c) ∧ W.cell? ⟨w.heap.size + 1, 0, none⟩ = some (.int .i64 p) ∧ W.cell? ⟨w.heap.size + 1, 1, none⟩ = some (.int .i64 q) ∧ Below w.heap.size w W ∧ w.heap.size + 2 ≤ W.heap.size) : W.drew.cell? ⟨w.heap.size, 0, none⟩ = some (.int .i64 a) ∧ W.drew.cell? ⟨w.heap.size, 1, none⟩ = some (.int .i64 b) ∧ W.drew.cell? ⟨w.heap.size, 2, none⟩ = some (.int .i64 c) ∧ W.drew.cell? ⟨w.heap.size + 1, 0, none⟩ = some (.int .i64 p) ∧ W.drew.cell? ⟨w.heap.size + 1, 1, none⟩ = some (.int .i64 q) ∧ Below w.heap.size w W.drew ∧ w.heap.size + 2 ≤ W.drew.heap.size := by
  obtain ⟨c0, c1, c2, c3, c4, hB, hz⟩ := h
  exact ⟨c0, c1, c2, c3, c4, hB.drew, hz⟩

theorem lh_below {a b c p q : Int} {w W : World} (h : W.cell? ⟨w.heap.size, 0, none⟩ = some (.int .i64 a) ∧ W.cell? ⟨w.heap.size, 1, none⟩ = some (.int .i64 b) ∧ W.cell? ⟨w.heap.size, 2, none⟩ = some (.int .i64 c) ∧ W.cell? ⟨w.heap.size + 1, 0, none⟩ = some (.int .i64 p) ∧ W.cell? ⟨w.heap.size + 1, 1, none⟩ = some (.int .i64 q) ∧ Below w.heap.size w W ∧ w.heap.size + 2 ≤ W.heap.size) : Below w.heap.size w W := by
  obtain ⟨c0, c1, c2, c3, c4, hB, hz⟩ := h
  exact hB

theorem lh_size {a b c p q : Int} {w W : World} (h : W.cell? ⟨w.heap.size, 0, none⟩ = some (.int .i64 a) ∧ W.cell? ⟨w.heap.size, 1, none⟩ = some (.int .i64 b) ∧ W.cell? ⟨w.heap.size, 2, none⟩ = some (.int .i64 c) ∧ W.cell? ⟨w.heap.size + 1, 0, none⟩ = some (.int .i64 p) ∧ W.cell? ⟨w.heap.size + 1, 1, none⟩ = some (.int .i64 q) ∧ Below w.heap.size w W ∧ w.heap.size + 2 ≤ W.heap.size) : w.heap.size + 2 ≤ W.heap.size := by
  obtain ⟨c0, c1, c2, c3, c4, hB, hz⟩ := h
  exact hz

theorem lh_set {a b c p q : Int} {w W : World} {t j : Nat} {u : Value} (h : W.cell? ⟨w.heap.size, 0, none⟩ = some (.int .i64 a) ∧ W.cell? ⟨w.heap.size, 1, none⟩ = some (.int .i64 b) ∧ W.cell? ⟨w.heap.size, 2, none⟩ = some (.int .i64 c) ∧ W.cell? ⟨w.heap.size + 1, 0, none⟩ = some (.int .i64 p) ∧ W.cell? ⟨w.heap.size + 1, 1, none⟩ = some (.int .i64 q) ∧ Below w.heap.size w W ∧ w.heap.size + 2 ≤ W.heap.size) (ht : w.heap.size + 2 ≤ t) : (W.setCell ⟨t, j, none⟩ u).cell? ⟨w.heap.size, 0, none⟩ = some (.int .i64 a) ∧ (W.setCell ⟨t, j, none⟩ u).cell? ⟨w.heap.size, 1, none⟩ = some (.int .i64 b) ∧ (W.setCell ⟨t, j, none⟩ u).cell? ⟨w.heap.size, 2, none⟩ = some (.int .i64 c) ∧ (W.setCell ⟨t, j, none⟩ u).cell? ⟨w.heap.size + 1, 0, none⟩ = some (.int .i64 p) ∧ (W.setCell ⟨t, j, none⟩ u).cell? ⟨w.heap.size + 1, 1, none⟩ = some (.int .i64 q) ∧ Below w.heap.size w (W.setCell ⟨t, j, none⟩ u) ∧ w.heap.size + 2 ≤ (W.setCell ⟨t, j, none⟩ u).heap.size := by
  obtain ⟨c0, c1, c2, c3, c4, hB, hz⟩ := h
  exact ⟨cell_set c0 (by omega), cell_set c1 (by omega), cell_set c2 (by omega), cell_set c3 (by omega), cell_set c4 (by omega), hB.setCell (by simp; omega) _, by simpa [World.setCell] using hz⟩

theorem lh_start {a b c p q : Int} {w : World} : ((w.alloc (.cells #[.int .i64 a, .int .i64 b, .int .i64 c] 22)).alloc (.cells #[.int .i64 p, .int .i64 q] 24)).drew.cell? ⟨w.heap.size, 0, none⟩ = some (.int .i64 a) ∧ ((w.alloc (.cells #[.int .i64 a, .int .i64 b, .int .i64 c] 22)).alloc (.cells #[.int .i64 p, .int .i64 q] 24)).drew.cell? ⟨w.heap.size, 1, none⟩ = some (.int .i64 b) ∧ ((w.alloc (.cells #[.int .i64 a, .int .i64 b, .int .i64 c] 22)).alloc (.cells #[.int .i64 p, .int .i64 q] 24)).drew.cell? ⟨w.heap.size, 2, none⟩ = some (.int .i64 c) ∧ ((w.alloc (.cells #[.int .i64 a, .int .i64 b, .int .i64 c] 22)).alloc (.cells #[.int .i64 p, .int .i64 q] 24)).drew.cell? ⟨w.heap.size + 1, 0, none⟩ = some (.int .i64 p) ∧ ((w.alloc (.cells #[.int .i64 a, .int .i64 b, .int .i64 c] 22)).alloc (.cells #[.int .i64 p, .int .i64 q] 24)).drew.cell? ⟨w.heap.size + 1, 1, none⟩ = some (.int .i64 q) ∧ Below w.heap.size w ((w.alloc (.cells #[.int .i64 a, .int .i64 b, .int .i64 c] 22)).alloc (.cells #[.int .i64 p, .int .i64 q] 24)).drew ∧ w.heap.size + 2 ≤ ((w.alloc (.cells #[.int .i64 a, .int .i64 b, .int .i64 c] 22)).alloc (.cells #[.int .i64 p, .int .i64 q] 24)).drew.heap.size := by
  refine ⟨?_, ?_, ?_, ?_, ?_, (((Below.refl _ _).alloc (by simp) _).alloc (by simp) _).drew, ?_⟩
  all_goals first | (go_simp; done) | (simp; done) | (simp; omega)

theorem lh_start0 {a b c p q : Int} {w : World} : ((w.alloc (.cells #[.int .i64 a, .int .i64 b, .int .i64 c] 22)).alloc (.cells #[.int .i64 p, .int .i64 q] 24)).cell? ⟨w.heap.size, 0, none⟩ = some (.int .i64 a) ∧ ((w.alloc (.cells #[.int .i64 a, .int .i64 b, .int .i64 c] 22)).alloc (.cells #[.int .i64 p, .int .i64 q] 24)).cell? ⟨w.heap.size, 1, none⟩ = some (.int .i64 b) ∧ ((w.alloc (.cells #[.int .i64 a, .int .i64 b, .int .i64 c] 22)).alloc (.cells #[.int .i64 p, .int .i64 q] 24)).cell? ⟨w.heap.size, 2, none⟩ = some (.int .i64 c) ∧ ((w.alloc (.cells #[.int .i64 a, .int .i64 b, .int .i64 c] 22)).alloc (.cells #[.int .i64 p, .int .i64 q] 24)).cell? ⟨w.heap.size + 1, 0, none⟩ = some (.int .i64 p) ∧ ((w.alloc (.cells #[.int .i64 a, .int .i64 b, .int .i64 c] 22)).alloc (.cells #[.int .i64 p, .int .i64 q] 24)).cell? ⟨w.heap.size + 1, 1, none⟩ = some (.int .i64 q) ∧ Below w.heap.size w ((w.alloc (.cells #[.int .i64 a, .int .i64 b, .int .i64 c] 22)).alloc (.cells #[.int .i64 p, .int .i64 q] 24)) ∧ w.heap.size + 2 ≤ ((w.alloc (.cells #[.int .i64 a, .int .i64 b, .int .i64 c] 22)).alloc (.cells #[.int .i64 p, .int .i64 q] 24)).heap.size := by
  refine ⟨?_, ?_, ?_, ?_, ?_, (((Below.refl _ _).alloc (by simp) _).alloc (by simp) _), ?_⟩
  all_goals first | (go_simp; done) | (simp; done) | (simp; omega)

theorem lj_keep {g : Nat} {a b c p q m n o : Int} {w W W' : World} (hb : Below W.heap.size W W') (h : W.cell? ⟨w.heap.size, 0, none⟩ = some (.int .i64 a) ∧ W.cell? ⟨w.heap.size, 1, none⟩ = some (.int .i64 b) ∧ W.cell? ⟨w.heap.size, 2, none⟩ = some (.int .i64 c) ∧ W.cell? ⟨w.heap.size + 1, 0, none⟩ = some (.int .i64 p) ∧ W.cell? ⟨w.heap.size + 1, 1, none⟩ = some (.int .i64 q) ∧ W.cell? ⟨g, 0, none⟩ = some (.int .i64 m) ∧ W.cell? ⟨g, 1, none⟩ = some (.int .i64 n) ∧ W.cell? ⟨g, 2, none⟩ = some (.int .i64 o) ∧ g < W.heap.size ∧ Below w.heap.size w W ∧ w.heap.size + 2 ≤ W.heap.size) : W'.cell? ⟨w.heap.size, 0, none⟩ = some (.int .i64 a) ∧ W'.cell? ⟨w.heap.size, 1, none⟩ = some (.int .i64 b) ∧ W'.cell? ⟨w.heap.size, 2, none⟩ = some (.int .i64 c) ∧ W'.cell? ⟨w.heap.size + 1, 0, none⟩ = some (.int .i64 p) ∧ W'.cell? ⟨w.heap.size + 1, 1, none⟩ = some (.int .i64 q) ∧ W'.cell? ⟨g, 0, none⟩ = some (.int .i64 m) ∧ W'.cell? ⟨g, 1, none⟩ = some (.int .i64 n) ∧ W'.cell? ⟨g, 2, none⟩ = some (.int .i64 o) ∧ g < W'.heap.size ∧ Below w.heap.size w W' ∧ w.heap.size + 2 ≤ W'.heap.size := by
  obtain ⟨c0, c1, c2, c3, c4, c5, c6, c7, g0, hB, hz⟩ := h
  have hq := hb.size
  exact ⟨cell_next hb c0 (by omega), cell_next hb c1 (by omega), cell_next hb c2 (by omega), cell_next hb c3 (by omega), cell_next hb c4 (by omega), cell_next hb c5 (by omega), cell_next hb c6 (by omega), cell_next hb c7 (by omega), by omega, hB.trans (hb.mono (by omega)), by omega⟩

theorem lj_alloc {g : Nat} {a b c p q m n o : Int} {w W : World} {ob : Obj} (h : W.cell? ⟨w.heap.size, 0, none⟩ = some (.int .i64 a) ∧ W.cell? ⟨w.heap.size, 1, none⟩ = some (.int .i64 b) ∧ W.cell? ⟨w.heap.size, 2, none⟩ = some (.int .i64 c) ∧ W.cell? ⟨w.heap.size + 1, 0, none⟩ = some (.int .i64 p) ∧ W.cell? ⟨w.heap.size + 1, 1, none⟩ = some (.int .i64 q) ∧ W.cell? ⟨g, 0, none⟩ = some (.int .i64 m) ∧ W.cell? ⟨g, 1, none⟩ = some (.int .i64 n) ∧ W.cell? ⟨g, 2, none⟩ = some (.int .i64 o) ∧ g < W.heap.size ∧ Below w.heap.size w W ∧ w.heap.size + 2 ≤ W.heap.size) : (W.alloc ob).cell? ⟨w.heap.size, 0, none⟩ = some (.int .i64 a) ∧ (W.alloc ob).cell? ⟨w.heap.size, 1, none⟩ = some (.int .i64 b) ∧ (W.alloc ob).cell? ⟨w.heap.size, 2, none⟩ = some (.int .i64 c) ∧ (W.alloc ob).cell? ⟨w.heap.size + 1, 0, none⟩ = some (.int .i64 p) ∧ (W.alloc ob).cell? ⟨w.heap.size + 1, 1, none⟩ = some (.int .i64 q) ∧ (W.alloc ob).cell? ⟨g, 0, none⟩ = some (.int .i64 m) ∧ (W.alloc ob).cell? ⟨g, 1, none⟩ = some (.int .i64 n) ∧ (W.alloc ob).cell? ⟨g, 2, none⟩ = some (.int .i64 o) ∧ g < (W.alloc ob).heap.size ∧ Below w.heap.size w (W.alloc ob) ∧ w.heap.size + 2 ≤ (W.alloc ob).heap.size := lj_keep ((Below.refl _ _).alloc (Nat.le_refl _) _) h

theorem lj_drew {g : Nat} {a b c p q m n o : Int} {w W : World} (h : W.cell? ⟨w.heap.size, 0, none⟩ = some (.int .i64 a) ∧ W.cell? ⟨w.heap.size, 1, none⟩ = some (.int .i64 b) ∧ W.cell? ⟨w.heap.size, 2, none⟩ = some (.int .i64 c) ∧ W.cell? ⟨w.heap.size + 1, 0, none⟩ = some (.int .i64 p) ∧ W.cell? ⟨w.heap.size + 1, 1, none⟩ = some (.int .i64 q) ∧ W.cell? ⟨g, 0, none⟩ = some (.int .i64 m) ∧ W.cell? ⟨g, 1, none⟩ = some (.int .i64 n) ∧ W.cell? ⟨g, 2, none⟩ = some (.int .i64 o) ∧ g < W.heap.size ∧ Below w.heap.size w W ∧ w.heap.size + 2 ≤ W.heap.size) : W.drew.cell? ⟨w.heap.size, 0, none⟩ = some (.int .i64 a) ∧ W.drew.cell? ⟨w.heap.size, 1, none⟩ = some (.int .i64 b) ∧ W.drew.cell? ⟨w.heap.size, 2, none⟩ = some (.int .i64 c) ∧ W.drew.cell? ⟨w.heap.size + 1, 0, none⟩ = some (.int .i64 p) ∧ W.drew.cell? ⟨w.heap.size + 1, 1, none⟩ = some (.int .i64 q) ∧ W.drew.cell? ⟨g, 0, none⟩ = some (.int .i64 m) ∧ W.drew.cell? ⟨g, 1, none⟩ = some (.int .i64 n) ∧ W.drew.cell? ⟨g, 2, none⟩ = some (.int .i64 o) ∧ g < W.drew.heap.size ∧ Below w.heap.size w W.drew ∧ w.heap.size + 2 ≤ W.drew.heap.size := by
  obtain ⟨c0, c1, c2, c3, c4, c5, c6, c7, g0, hB, hz⟩ := h
  exact ⟨c0, c1, c2, c3, c4, c5, c6, c7, g0, hB.drew, hz⟩

theorem lj_below {g : Nat} {a b c p q m n o : Int} {w W : World} (h : W.cell? ⟨w.heap.size, 0, none⟩ = some (.int .i64 a) ∧ W.cell? ⟨w.heap.size, 1, none⟩ = some (.int .i64 b) ∧ W.cell? ⟨w.heap.size, 2, none⟩ = some (.int .i64 c) ∧ W.cell? ⟨w.heap.size + 1, 0, none⟩ = some (.int .i64 p) ∧ W.cell? ⟨w.heap.size + 1, 1, none⟩ = some (.int .i64 q) ∧ W.cell? ⟨g, 0, none⟩ = some (.int .i64 m) ∧ W.cell? ⟨g, 1, none⟩ = some (.int .i64 n) ∧ W.cell? ⟨g, 2, none⟩ = some (.int .i64 o) ∧ g < W.heap.size ∧ Below w.heap.size w W ∧ w.heap.size + 2 ≤ W.heap.size) : Below w.heap.size w W := by
  obtain ⟨c0, c1, c2, c3, c4, c5, c6, c7, g0, hB, hz⟩ := h
  exact hB

theorem lj_size {g : Nat} {a b c p q m n o : Int} {w W : World} (h : W.cell? ⟨w.heap.size, 0, none⟩ = some (.int .i64 a) ∧ W.cell? ⟨w.heap.size, 1, none⟩ = some (.int .i64 b) ∧ W.cell? ⟨w.heap.size, 2, none⟩ = some (.int .i64 c) ∧ W.cell? ⟨w.heap.size + 1, 0, none⟩ = some (.int .i64 p) ∧ W.cell? ⟨w.heap.size + 1, 1, none⟩ = some (.int .i64 q) ∧ W.cell? ⟨g, 0, none⟩ = some (.int .i64 m) ∧ W.cell? ⟨g, 1, none⟩ = some (.int .i64 n) ∧ W.cell? ⟨g, 2, none⟩ = some (.int .i64 o) ∧ g < W.heap.size ∧ Below w.heap.size w W ∧ w.heap.size + 2 ≤ W.heap.size) : w.heap.size + 2 ≤ W.heap.size := by
  obtain ⟨c0, c1, c2, c3, c4, c5, c6, c7, g0, hB, hz⟩ := h
  exact hz

theorem lj_set {g : Nat} {a b c p q m n o : Int} {w W : World} {t j : Nat} {u : Value} (h : W.cell? ⟨w.heap.size, 0, none⟩ = some (.int .i64 a) ∧ W.cell? ⟨w.heap.size, 1, none⟩ = some (.int .i64 b) ∧ W.cell? ⟨w.heap.size, 2, none⟩ = some (.int .i64 c) ∧ W.cell? ⟨w.heap.size + 1, 0, none⟩ = some (.int .i64 p) ∧ W.cell? ⟨w.heap.size + 1, 1, none⟩ = some (.int .i64 q) ∧ W.cell? ⟨g, 0, none⟩ = some (.int .i64 m) ∧ W.cell? ⟨g, 1, none⟩ = some (.int .i64 n) ∧ W.cell? ⟨g, 2, none⟩ = some (.int .i64 o) ∧ g < W.heap.size ∧ Below w.heap.size w W ∧ w.heap.size + 2 ≤ W.heap.size) (ht : w.heap.size + 2 ≤ t) (hn_g : g < t) : (W.setCell ⟨t, j, none⟩ u).cell? ⟨w.heap.size, 0, none⟩ = some (.int .i64 a) ∧ (W.setCell ⟨t, j, none⟩ u).cell? ⟨w.heap.size, 1, none⟩ = some (.int .i64 b) ∧ (W.setCell ⟨t, j, none⟩ u).cell? ⟨w.heap.size, 2, none⟩ = some (.int .i64 c) ∧ (W.setCell ⟨t, j, none⟩ u).cell? ⟨w.heap.size + 1, 0, none⟩ = some (.int .i64 p) ∧ (W.setCell ⟨t, j, none⟩ u).cell? ⟨w.heap.size + 1, 1, none⟩ = some (.int .i64 q) ∧ (W.setCell ⟨t, j, none⟩ u).cell? ⟨g, 0, none⟩ = some (.int .i64 m) ∧ (W.setCell ⟨t, j, none⟩ u).cell? ⟨g, 1, none⟩ = some (.int .i64 n) ∧ (W.setCell ⟨t, j, none⟩ u).cell? ⟨g, 2, none⟩ = some (.int .i64 o) ∧ g < (W.setCell ⟨t, j, none⟩ u).heap.size ∧ Below w.heap.size w (W.setCell ⟨t, j, none⟩ u) ∧ w.heap.size + 2 ≤ (W.setCell ⟨t, j, none⟩ u).heap.size := by
  obtain ⟨c0, c1, c2, c3, c4, c5, c6, c7, g0, hB, hz⟩ := h
  exact ⟨cell_set c0 (by omega), cell_set c1 (by omega), cell_set c2 (by omega), cell_set c3 (by omega), cell_set c4 (by omega), cell_set c5 (by omega), cell_set c6 (by omega), cell_set c7 (by omega), by simpa [World.setCell] using g0, hB.setCell (by simp; omega) _, by simpa [World.setCell] using hz⟩

set_option maxHeartbeats 1000000 in
theorem vvhas_law (a b c : Int) (_wa : (Lit.int .i64 a).wf = true) (_wb : (Lit.int .i64 b).wf = true) (_wc : (Lit.int .i64 c).wf = true) (p q : Int) (_wp : (Lit.int .i64 p).wf = true) (_wq : (Lit.int .i64 q).wf = true) (w : World) :
    Calls Try.prog 3 #[.agg #[.int .i64 a, .int .i64 b, .int .i64 c], .agg #[.int .i64 p, .int .i64 q]] w fun e w' => e = .returned (.bool true) ∧ Below w.heap.size w w' := by
  clear _wa _wb _wc _wp _wq
  obtain ⟨m, hm⟩ : ∃ m, m = hasV (vvB a b c && dotB p q) (comp a b c p) q := ⟨_, rfl⟩
  obtain ⟨k, hk⟩ : ∃ k, k = okD (vvB a b c && dotB p q) := ⟨_, rfl⟩
  have C1 := fun W => spec_has a b c p q W
  have C2 := fun W => impl_has a b c p q W
  rw [← hm, ← hk] at C1 C2
  have D1 : Hid (∀ W, Calls Try.prog 5 #[.agg #[.int .i64 a, .int .i64 b, .int .i64 c], .agg #[.int .i64 p, .int .i64 q]] W fun e w' => e = .returned (.tuple #[.bool m, .int .i64 k]) ∧ Below W.heap.size W w') := C1
  have D2 : Hid (∀ W, Calls Try.prog 8 #[.agg #[.int .i64 a, .int .i64 b, .int .i64 c], .agg #[.int .i64 p, .int .i64 q]] W fun e w' => e = .returned (.tuple #[.bool m, .int .i64 k]) ∧ Below W.heap.size W w') := C2
  clear C1 C2 hm hk
  go_enter Try.func3, Try.ntmps3
  go_wp2_with fail
  go_region_held3 (fun w' => w'.cell? ⟨w.heap.size, 0, none⟩ = some (.int .i64 a) ∧ w'.cell? ⟨w.heap.size, 1, none⟩ = some (.int .i64 b) ∧ w'.cell? ⟨w.heap.size, 2, none⟩ = some (.int .i64 c) ∧ w'.cell? ⟨w.heap.size + 1, 0, none⟩ = some (.int .i64 p) ∧ w'.cell? ⟨w.heap.size + 1, 1, none⟩ = some (.int .i64 q) ∧ Below w.heap.size w w' ∧ w.heap.size + 2 ≤ w'.heap.size) (with_reducible first | assumption | exact lh_start | exact lh_drew (lh_alloc lh_start0) | (refine lh_drew (lh_alloc ?_); assumption) | (refine lh_drew ?_; assumption) | (refine lh_alloc ?_; assumption) | (refine lh_keep (by assumption) ?_; assumption) | (refine lh_set (lh_set (lh_set ?_ ?_) ?_) ?_; all_goals (first | assumption | omega))) (first | (go_at_call 6; refine (toVv_any _ _ _ _).mono ?_; rintro e w' ⟨rfl, hb⟩) | (go_at_call 7; refine (toDot_any _ _ _).mono ?_; rintro e w' ⟨rfl, hb⟩) | (go_at_call 5; refine (D1.out _).mono ?_; rintro e w' ⟨rfl, hb⟩))
  go_wp2_with fail
  go_region_held3 (fun w' => w'.cell? ⟨w.heap.size, 0, none⟩ = some (.int .i64 a) ∧ w'.cell? ⟨w.heap.size, 1, none⟩ = some (.int .i64 b) ∧ w'.cell? ⟨w.heap.size, 2, none⟩ = some (.int .i64 c) ∧ w'.cell? ⟨w.heap.size + 1, 0, none⟩ = some (.int .i64 p) ∧ w'.cell? ⟨w.heap.size + 1, 1, none⟩ = some (.int .i64 q) ∧ Below w.heap.size w w' ∧ w.heap.size + 2 ≤ w'.heap.size) (with_reducible first | assumption | exact lh_start | exact lh_drew (lh_alloc lh_start0) | (refine lh_drew (lh_alloc ?_); assumption) | (refine lh_drew ?_; assumption) | (refine lh_alloc ?_; assumption) | (refine lh_keep (by assumption) ?_; assumption) | (refine lh_set (lh_set (lh_set ?_ ?_) ?_) ?_; all_goals (first | assumption | omega))) (first | (go_at_call 6; refine (toVv_any _ _ _ _).mono ?_; rintro e w' ⟨rfl, hb⟩) | (go_at_call 7; refine (toDot_any _ _ _).mono ?_; rintro e w' ⟨rfl, hb⟩) | (go_at_call 8; refine (D2.out _).mono ?_; rintro e w' ⟨rfl, hb⟩))
  go_wp2
  go_ret
  exact ⟨rfl, lh_below (by with_reducible assumption)⟩

theorem lj_of {g : Nat} {a b c p q m n o : Int} {w W : World} (h : W.cell? ⟨w.heap.size, 0, none⟩ = some (.int .i64 a) ∧ W.cell? ⟨w.heap.size, 1, none⟩ = some (.int .i64 b) ∧ W.cell? ⟨w.heap.size, 2, none⟩ = some (.int .i64 c) ∧ W.cell? ⟨w.heap.size + 1, 0, none⟩ = some (.int .i64 p) ∧ W.cell? ⟨w.heap.size + 1, 1, none⟩ = some (.int .i64 q) ∧ Below w.heap.size w W ∧ w.heap.size + 2 ≤ W.heap.size) (g0 : W.cell? ⟨g, 0, none⟩ = some (.int .i64 m)) (g1 : W.cell? ⟨g, 1, none⟩ = some (.int .i64 n)) (g2 : W.cell? ⟨g, 2, none⟩ = some (.int .i64 o)) (hg : g < W.heap.size) : W.cell? ⟨w.heap.size, 0, none⟩ = some (.int .i64 a) ∧ W.cell? ⟨w.heap.size, 1, none⟩ = some (.int .i64 b) ∧ W.cell? ⟨w.heap.size, 2, none⟩ = some (.int .i64 c) ∧ W.cell? ⟨w.heap.size + 1, 0, none⟩ = some (.int .i64 p) ∧ W.cell? ⟨w.heap.size + 1, 1, none⟩ = some (.int .i64 q) ∧ W.cell? ⟨g, 0, none⟩ = some (.int .i64 m) ∧ W.cell? ⟨g, 1, none⟩ = some (.int .i64 n) ∧ W.cell? ⟨g, 2, none⟩ = some (.int .i64 o) ∧ g < W.heap.size ∧ Below w.heap.size w W ∧ w.heap.size + 2 ≤ W.heap.size := by
  obtain ⟨c0, c1, c2, c3, c4, hB, hz⟩ := h
  exact ⟨c0, c1, c2, c3, c4, g0, g1, g2, hg, hB, hz⟩

theorem lj_last {g t : Nat} {a b c p q m n o : Int} {w W : World} (h : W.cell? ⟨w.heap.size, 0, none⟩ = some (.int .i64 a) ∧ W.cell? ⟨w.heap.size, 1, none⟩ = some (.int .i64 b) ∧ W.cell? ⟨w.heap.size, 2, none⟩ = some (.int .i64 c) ∧ W.cell? ⟨w.heap.size + 1, 0, none⟩ = some (.int .i64 p) ∧ W.cell? ⟨w.heap.size + 1, 1, none⟩ = some (.int .i64 q) ∧ W.cell? ⟨g, 0, none⟩ = some (.int .i64 m) ∧ W.cell? ⟨g, 1, none⟩ = some (.int .i64 n) ∧ W.cell? ⟨g, 2, none⟩ = some (.int .i64 o) ∧ g < W.heap.size ∧ Below w.heap.size w W ∧ w.heap.size + 2 ≤ W.heap.size) (g0 : W.cell? ⟨t, 0, none⟩ = some (.int .i64 m)) (g1 : W.cell? ⟨t, 1, none⟩ = some (.int .i64 n)) (g2 : W.cell? ⟨t, 2, none⟩ = some (.int .i64 o)) : W.cell? ⟨g, 0, none⟩ = some (.int .i64 m) ∧ W.cell? ⟨g, 1, none⟩ = some (.int .i64 n) ∧ W.cell? ⟨g, 2, none⟩ = some (.int .i64 o) ∧ W.cell? ⟨t, 0, none⟩ = some (.int .i64 m) ∧ W.cell? ⟨t, 1, none⟩ = some (.int .i64 n) ∧ W.cell? ⟨t, 2, none⟩ = some (.int .i64 o) ∧ Below w.heap.size w W := by
  obtain ⟨c0, c1, c2, c3, c4, c6, c7, c8, hg, hB, hz⟩ := h
  exact ⟨c6, c7, c8, g0, g1, g2, hB⟩

set_option maxHeartbeats 2000000 in
theorem vvadd_law (a b c : Int) (_wa : (Lit.int .i64 a).wf = true) (_wb : (Lit.int .i64 b).wf = true) (_wc : (Lit.int .i64 c).wf = true) (p q : Int) (_wp : (Lit.int .i64 p).wf = true) (_wq : (Lit.int .i64 q).wf = true) (w : World) :
    Calls Try.prog 4 #[.agg #[.int .i64 a, .int .i64 b, .int .i64 c], .agg #[.int .i64 p, .int .i64 q]] w fun e w' => e = .returned (.bool true) ∧ Below w.heap.size w w' := by
  clear _wa _wb _wc _wp _wq
  obtain ⟨m, hm⟩ : ∃ m, m = (addV (vvB a b c && dotB p q) 0 p a q) := ⟨_, rfl⟩
  obtain ⟨n, hn⟩ : ∃ n, n = (addV (vvB a b c && dotB p q) 1 p b q) := ⟨_, rfl⟩
  obtain ⟨o, ho⟩ : ∃ o, o = (addV (vvB a b c && dotB p q) 2 p c q) := ⟨_, rfl⟩
  obtain ⟨k, hk⟩ : ∃ k, k = okD (vvB a b c && dotB p q) := ⟨_, rfl⟩
  have C1 := fun W => spec_add a b c p q W
  have C2 := fun W => impl_add a b c p q W
  rw [← hm, ← hn, ← ho, ← hk] at C1 C2
  have D1 : Hid (∀ W, Calls Try.prog 9 #[.agg #[.int .i64 a, .int .i64 b, .int .i64 c], .agg #[.int .i64 p, .int .i64 q]] W fun e w' => e = .returned (.tuple #[.agg #[.int .i64 m, .int .i64 n, .int .i64 o], .int .i64 k]) ∧ Below W.heap.size W w') := C1
  have D2 : Hid (∀ W, Calls Try.prog 10 #[.agg #[.int .i64 a, .int .i64 b, .int .i64 c], .agg #[.int .i64 p, .int .i64 q]] W fun e w' => e = .returned (.tuple #[.agg #[.int .i64 m, .int .i64 n, .int .i64 o], .int .i64 k]) ∧ Below W.heap.size W w') := C2
  clear C1 C2 hm hn ho hk
  go_enter Try.func4, Try.ntmps4
  go_upto_region 1 with fail
  go_cut [5, 6] (fun s5 s6 wc => ∃ g : Nat, s5 = .pointer (some ⟨g, 0, none⟩) ∧ s6 = .int .i64 k ∧ w.heap.size + 2 ≤ g ∧ wc.cell? ⟨w.heap.size, 0, none⟩ = some (.int .i64 a) ∧ wc.cell? ⟨w.heap.size, 1, none⟩ = some (.int .i64 b) ∧ wc.cell? ⟨w.heap.size, 2, none⟩ = some (.int .i64 c) ∧ wc.cell? ⟨w.heap.size + 1, 0, none⟩ = some (.int .i64 p) ∧ wc.cell? ⟨w.heap.size + 1, 1, none⟩ = some (.int .i64 q) ∧ wc.cell? ⟨g, 0, none⟩ = some (.int .i64 m) ∧ wc.cell? ⟨g, 1, none⟩ = some (.int .i64 n) ∧ wc.cell? ⟨g, 2, none⟩ = some (.int .i64 o) ∧ g < wc.heap.size ∧ Below w.heap.size w wc ∧ w.heap.size + 2 ≤ wc.heap.size)
  case first =>
    go_region_held3 (fun w' => w'.cell? ⟨w.heap.size, 0, none⟩ = some (.int .i64 a) ∧ w'.cell? ⟨w.heap.size, 1, none⟩ = some (.int .i64 b) ∧ w'.cell? ⟨w.heap.size, 2, none⟩ = some (.int .i64 c) ∧ w'.cell? ⟨w.heap.size + 1, 0, none⟩ = some (.int .i64 p) ∧ w'.cell? ⟨w.heap.size + 1, 1, none⟩ = some (.int .i64 q) ∧ Below w.heap.size w w' ∧ w.heap.size + 2 ≤ w'.heap.size) (with_reducible first | assumption | exact lh_start | exact lh_drew (lh_alloc lh_start0) | (refine lh_drew (lh_alloc ?_); assumption) | (refine lh_drew ?_; assumption) | (refine lh_alloc ?_; assumption) | (refine lh_keep (by assumption) ?_; assumption) | (refine lh_set (lh_set (lh_set ?_ ?_) ?_) ?_; all_goals (first | assumption | omega))) (first | (go_at_call 6; refine (toVv_any _ _ _ _).mono ?_; rintro e w1 ⟨rfl, hb⟩; obtain ⟨hc, hf⟩ := bcell hb; have z1 := hb.size; (try simp at z1); have hK := lh_keep hb (by with_reducible assumption); (try (have q1 : w.heap.size + 1 + 1 < w1.heap.size := by omega))) | (go_at_call 7; refine (toDot_any _ _ _).mono ?_; rintro e w2 ⟨rfl, hb⟩; obtain ⟨hc, hf⟩ := bcell hb; have z2 := hb.size; (try simp at z2); have hK := lh_keep hb (by with_reducible assumption); (try (have q1 : w.heap.size + 1 + 1 < w2.heap.size := by omega)); (try (have q2 : w1.heap.size < w2.heap.size := by omega))) | (go_at_call 9; refine (D1.out _).mono ?_; rintro e w3 ⟨rfl, hb⟩; obtain ⟨hc, hf⟩ := bcell hb; have z3 := hb.size; (try simp at z3); have hK := lh_keep hb (by with_reducible assumption)))
    all_goals
      go_wp2_with fail
      go_meet
      case rel =>
        refine ⟨_, rfl, rfl, by omega, ?_⟩
        refine lj_of (by with_reducible assumption) (by go_simp) (by go_simp) (by go_simp) ?_
        simp [World.setCell]
        try omega
  case rest =>
    obtain ⟨g, rfl, rfl, hg, hS⟩ := hcut
    clear D1
    go_upto_region 2 with fail
    go_cut [7, 8] (fun s7 s8 wd => ∃ t : Nat, s7 = .pointer (some ⟨t, 0, none⟩) ∧ s8 = .int .i64 k ∧ wd.cell? ⟨g, 0, none⟩ = some (.int .i64 m) ∧ wd.cell? ⟨g, 1, none⟩ = some (.int .i64 n) ∧ wd.cell? ⟨g, 2, none⟩ = some (.int .i64 o) ∧ wd.cell? ⟨t, 0, none⟩ = some (.int .i64 m) ∧ wd.cell? ⟨t, 1, none⟩ = some (.int .i64 n) ∧ wd.cell? ⟨t, 2, none⟩ = some (.int .i64 o) ∧ Below w.heap.size w wd)
    case first =>
      go_region_held3 (fun w' => w'.cell? ⟨w.heap.size, 0, none⟩ = some (.int .i64 a) ∧ w'.cell? ⟨w.heap.size, 1, none⟩ = some (.int .i64 b) ∧ w'.cell? ⟨w.heap.size, 2, none⟩ = some (.int .i64 c) ∧ w'.cell? ⟨w.heap.size + 1, 0, none⟩ = some (.int .i64 p) ∧ w'.cell? ⟨w.heap.size + 1, 1, none⟩ = some (.int .i64 q) ∧ w'.cell? ⟨g, 0, none⟩ = some (.int .i64 m) ∧ w'.cell? ⟨g, 1, none⟩ = some (.int .i64 n) ∧ w'.cell? ⟨g, 2, none⟩ = some (.int .i64 o) ∧ g < w'.heap.size ∧ Below w.heap.size w w' ∧ w.heap.size + 2 ≤ w'.heap.size) (with_reducible first | assumption | (refine lj_drew (lj_alloc ?_); assumption) | (refine lj_drew ?_; assumption) | (refine lj_alloc ?_; assumption) | (refine lj_keep (by assumption) ?_; assumption) | (refine lj_set (lj_set (lj_set ?_ ?_ ?_) ?_ ?_) ?_ ?_; all_goals (first | assumption | omega))) (first | (go_at_call 6; refine (toVv_any _ _ _ _).mono ?_; rintro e w1 ⟨rfl, hb⟩; obtain ⟨hc, hf⟩ := bcell hb; have z1 := hb.size; (try simp at z1); have hK := lj_keep hb (by with_reducible assumption); (try (have q1 : wc.heap.size < w1.heap.size := by omega))) | (go_at_call 7; refine (toDot_any _ _ _).mono ?_; rintro e w2 ⟨rfl, hb⟩; obtain ⟨hc, hf⟩ := bcell hb; have z2 := hb.size; (try simp at z2); have hK := lj_keep hb (by with_reducible assumption); (try (have q1 : wc.heap.size < w2.heap.size := by omega)); (try (have q2 : w1.heap.size < w2.heap.size := by omega))) | (go_at_call 10; refine (D2.out _).mono ?_; rintro e w3 ⟨rfl, hb⟩; obtain ⟨hc, hf⟩ := bcell hb; have z3 := hb.size; (try simp at z3); have hK := lj_keep hb (by with_reducible assumption)))
      all_goals
        go_wp2_with fail
        go_meet
        case rel =>
          refine ⟨_, rfl, rfl, ?_⟩
          exact lj_last (by with_reducible assumption) (by go_simp) (by go_simp) (by go_simp)
    case rest =>
      obtain ⟨t, rfl, rfl, e0, e1, e2, f0, f1, f2, hB⟩ := hcut
      clear D2 hS
      go_wp2_with fail
      refine (eq_any _ _ _ _).mono ?_
      rintro e we ⟨rfl, hb⟩
      go_wp2
      go_ret
      exact ⟨rfl, hB.trans (hb.mono hB.size)⟩
end Go.Proofs.Ytfmkpiejnfdklaa

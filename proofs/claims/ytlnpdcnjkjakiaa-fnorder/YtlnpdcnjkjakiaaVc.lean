/- How what two know stands, as the program reckons it. -/
import Derived.Test.YtlnpdcnjkjakiaaRows
import Derived.WalkKit
import Derived.WalkSpells
import Derived.WalkLawsBesides
import Derived.Deep.QuietTactic
import Derived.BigQuiet
import Derived.Deep.RegionHeld3
import Derived.LoopN
import Derived.RegionTactic
import Derived.BigRegion
import Derived.Laws.StructEq
import Derived.Test.YtlnpdcnjkjakiaaSrc
import Derived.Test.YtlnpdcnjkjakiaaVa
namespace Go.Proofs.Ytlnpdcnjkjakiaa
open Go.RowKit
set_option linter.unusedSimpArgs false
set_option linter.unusedVariables false

set_option maxHeartbeats 1000000 in
theorem impl_order_lll (a b c x y z : Int) (w : World) (h : vvB a b c = true) (h' : vvB x y z = true) (h0 : a < x) (h1 : b < y) (h2 : c < z) :
    Calls Try.prog 9 #[.agg #[.int .i64 a, .int .i64 b, .int .i64 c], .agg #[.int .i64 x, .int .i64 y, .int .i64 z]] w fun e w' => e = .returned (.tuple #[.int .i64 1, .int .i64 0]) ∧ Below w.heap.size w w' := by
  have n0 : (a == x) = false := beq_eq_false_iff_ne.2 (by omega)
  have n0' : (x == a) = false := beq_eq_false_iff_ne.2 (by omega)
  have n1 : (b == y) = false := beq_eq_false_iff_ne.2 (by omega)
  have n1' : (y == b) = false := beq_eq_false_iff_ne.2 (by omega)
  have n2 : (c == z) = false := beq_eq_false_iff_ne.2 (by omega)
  have n2' : (z == c) = false := beq_eq_false_iff_ne.2 (by omega)
  have ev := eqv
  go_enter Try.func9, Try.ntmps9
  go_wp2_with fail
  refine (impl_vv _ _ _ _).mono ?_
  rintro e w1 ⟨rfl, hb⟩
  have hS1 := vo_keep hb vo_start0
  clear hb
  obtain ⟨_c0, _c1, _c2, _c3, _c4, _c5, _hB, _hz⟩ := id hS1
  go_wp2_with fail
  refine (impl_vv _ _ _ _).mono ?_
  rintro e w2 ⟨rfl, hb⟩
  have hS2 := vo_keep hb hS1
  clear hb
  obtain ⟨_c0, _c1, _c2, _c3, _c4, _c5, _hB, _hz⟩ := id hS2
  go_wp2_with fail
  refine (greater_any a b c x y z x y z _ (Or.inl ⟨h0, rfl⟩) (Or.inl ⟨h1, rfl⟩) (Or.inl ⟨h2, rfl⟩)).mono ?_
  rintro e w3 ⟨rfl, hb⟩
  have hS3 := vo_keep hb hS2
  clear hb
  obtain ⟨_c0, _c1, _c2, _c3, _c4, _c5, _hB, _hz⟩ := id hS3
  clear hS1 hS2 hS3
  have q0 : w.heap.size < w3.heap.size := by omega
  have q1 : w.heap.size + 1 < w3.heap.size := by omega
  go_wp2_with fail
  go_ret2
  refine ⟨rfl, ?_⟩
  exact _hB.alloc (by omega) _

set_option maxHeartbeats 1000000 in
theorem impl_order_lle (a b c x y : Int) (w : World) (h : vvB a b c = true) (h' : vvB x y c = true) (h0 : a < x) (h1 : b < y) :
    Calls Try.prog 9 #[.agg #[.int .i64 a, .int .i64 b, .int .i64 c], .agg #[.int .i64 x, .int .i64 y, .int .i64 c]] w fun e w' => e = .returned (.tuple #[.int .i64 1, .int .i64 0]) ∧ Below w.heap.size w w' := by
  have n0 : (a == x) = false := beq_eq_false_iff_ne.2 (by omega)
  have n0' : (x == a) = false := beq_eq_false_iff_ne.2 (by omega)
  have n1 : (b == y) = false := beq_eq_false_iff_ne.2 (by omega)
  have n1' : (y == b) = false := beq_eq_false_iff_ne.2 (by omega)
  have ev := eqv
  go_enter Try.func9, Try.ntmps9
  go_wp2_with fail
  refine (impl_vv _ _ _ _).mono ?_
  rintro e w1 ⟨rfl, hb⟩
  have hS1 := vo_keep hb vo_start0
  clear hb
  obtain ⟨_c0, _c1, _c2, _c3, _c4, _c5, _hB, _hz⟩ := id hS1
  go_wp2_with fail
  refine (impl_vv _ _ _ _).mono ?_
  rintro e w2 ⟨rfl, hb⟩
  have hS2 := vo_keep hb hS1
  clear hb
  obtain ⟨_c0, _c1, _c2, _c3, _c4, _c5, _hB, _hz⟩ := id hS2
  go_wp2_with fail
  refine (greater_any a b c x y c x y c _ (Or.inl ⟨h0, rfl⟩) (Or.inl ⟨h1, rfl⟩) (Or.inr ⟨Int.le_refl _, rfl⟩)).mono ?_
  rintro e w3 ⟨rfl, hb⟩
  have hS3 := vo_keep hb hS2
  clear hb
  obtain ⟨_c0, _c1, _c2, _c3, _c4, _c5, _hB, _hz⟩ := id hS3
  clear hS1 hS2 hS3
  have q0 : w.heap.size < w3.heap.size := by omega
  have q1 : w.heap.size + 1 < w3.heap.size := by omega
  go_wp2_with fail
  go_ret2
  refine ⟨rfl, ?_⟩
  exact _hB.alloc (by omega) _

set_option maxHeartbeats 1000000 in
theorem impl_order_llg (a b c x y z : Int) (w : World) (h : vvB a b c = true) (h' : vvB x y z = true) (h0 : a < x) (h1 : b < y) (h2 : z < c) :
    Calls Try.prog 9 #[.agg #[.int .i64 a, .int .i64 b, .int .i64 c], .agg #[.int .i64 x, .int .i64 y, .int .i64 z]] w fun e w' => e = .returned (.tuple #[.int .i64 3, .int .i64 0]) ∧ Below w.heap.size w w' := by
  have n0 : (a == x) = false := beq_eq_false_iff_ne.2 (by omega)
  have n0' : (x == a) = false := beq_eq_false_iff_ne.2 (by omega)
  have n1 : (b == y) = false := beq_eq_false_iff_ne.2 (by omega)
  have n1' : (y == b) = false := beq_eq_false_iff_ne.2 (by omega)
  have n2 : (c == z) = false := beq_eq_false_iff_ne.2 (by omega)
  have n2' : (z == c) = false := beq_eq_false_iff_ne.2 (by omega)
  have ev := eqv
  go_enter Try.func9, Try.ntmps9
  go_wp2_with fail
  refine (impl_vv _ _ _ _).mono ?_
  rintro e w1 ⟨rfl, hb⟩
  have hS1 := vo_keep hb vo_start0
  clear hb
  obtain ⟨_c0, _c1, _c2, _c3, _c4, _c5, _hB, _hz⟩ := id hS1
  go_wp2_with fail
  refine (impl_vv _ _ _ _).mono ?_
  rintro e w2 ⟨rfl, hb⟩
  have hS2 := vo_keep hb hS1
  clear hb
  obtain ⟨_c0, _c1, _c2, _c3, _c4, _c5, _hB, _hz⟩ := id hS2
  go_wp2_with fail
  refine (greater_any a b c x y z x y c _ (Or.inl ⟨h0, rfl⟩) (Or.inl ⟨h1, rfl⟩) (Or.inr ⟨by omega, rfl⟩)).mono ?_
  rintro e w3 ⟨rfl, hb⟩
  have hS3 := vo_keep hb hS2
  clear hb
  obtain ⟨_c0, _c1, _c2, _c3, _c4, _c5, _hB, _hz⟩ := id hS3
  clear hS1 hS2 hS3
  have q0 : w.heap.size < w3.heap.size := by omega
  have q1 : w.heap.size + 1 < w3.heap.size := by omega
  go_wp2_with fail
  go_ret2
  refine ⟨rfl, ?_⟩
  exact _hB.alloc (by omega) _

set_option maxHeartbeats 1000000 in
theorem impl_order_lel (a b c x z : Int) (w : World) (h : vvB a b c = true) (h' : vvB x b z = true) (h0 : a < x) (h2 : c < z) :
    Calls Try.prog 9 #[.agg #[.int .i64 a, .int .i64 b, .int .i64 c], .agg #[.int .i64 x, .int .i64 b, .int .i64 z]] w fun e w' => e = .returned (.tuple #[.int .i64 1, .int .i64 0]) ∧ Below w.heap.size w w' := by
  have n0 : (a == x) = false := beq_eq_false_iff_ne.2 (by omega)
  have n0' : (x == a) = false := beq_eq_false_iff_ne.2 (by omega)
  have n2 : (c == z) = false := beq_eq_false_iff_ne.2 (by omega)
  have n2' : (z == c) = false := beq_eq_false_iff_ne.2 (by omega)
  have ev := eqv
  go_enter Try.func9, Try.ntmps9
  go_wp2_with fail
  refine (impl_vv _ _ _ _).mono ?_
  rintro e w1 ⟨rfl, hb⟩
  have hS1 := vo_keep hb vo_start0
  clear hb
  obtain ⟨_c0, _c1, _c2, _c3, _c4, _c5, _hB, _hz⟩ := id hS1
  go_wp2_with fail
  refine (impl_vv _ _ _ _).mono ?_
  rintro e w2 ⟨rfl, hb⟩
  have hS2 := vo_keep hb hS1
  clear hb
  obtain ⟨_c0, _c1, _c2, _c3, _c4, _c5, _hB, _hz⟩ := id hS2
  go_wp2_with fail
  refine (greater_any a b c x b z x b z _ (Or.inl ⟨h0, rfl⟩) (Or.inr ⟨Int.le_refl _, rfl⟩) (Or.inl ⟨h2, rfl⟩)).mono ?_
  rintro e w3 ⟨rfl, hb⟩
  have hS3 := vo_keep hb hS2
  clear hb
  obtain ⟨_c0, _c1, _c2, _c3, _c4, _c5, _hB, _hz⟩ := id hS3
  clear hS1 hS2 hS3
  have q0 : w.heap.size < w3.heap.size := by omega
  have q1 : w.heap.size + 1 < w3.heap.size := by omega
  go_wp2_with fail
  go_ret2
  refine ⟨rfl, ?_⟩
  exact _hB.alloc (by omega) _

set_option maxHeartbeats 1000000 in
theorem impl_order_lee (a b c x : Int) (w : World) (h : vvB a b c = true) (h' : vvB x b c = true) (h0 : a < x) :
    Calls Try.prog 9 #[.agg #[.int .i64 a, .int .i64 b, .int .i64 c], .agg #[.int .i64 x, .int .i64 b, .int .i64 c]] w fun e w' => e = .returned (.tuple #[.int .i64 1, .int .i64 0]) ∧ Below w.heap.size w w' := by
  have n0 : (a == x) = false := beq_eq_false_iff_ne.2 (by omega)
  have n0' : (x == a) = false := beq_eq_false_iff_ne.2 (by omega)
  have ev := eqv
  go_enter Try.func9, Try.ntmps9
  go_wp2_with fail
  refine (impl_vv _ _ _ _).mono ?_
  rintro e w1 ⟨rfl, hb⟩
  have hS1 := vo_keep hb vo_start0
  clear hb
  obtain ⟨_c0, _c1, _c2, _c3, _c4, _c5, _hB, _hz⟩ := id hS1
  go_wp2_with fail
  refine (impl_vv _ _ _ _).mono ?_
  rintro e w2 ⟨rfl, hb⟩
  have hS2 := vo_keep hb hS1
  clear hb
  obtain ⟨_c0, _c1, _c2, _c3, _c4, _c5, _hB, _hz⟩ := id hS2
  go_wp2_with fail
  refine (greater_any a b c x b c x b c _ (Or.inl ⟨h0, rfl⟩) (Or.inr ⟨Int.le_refl _, rfl⟩) (Or.inr ⟨Int.le_refl _, rfl⟩)).mono ?_
  rintro e w3 ⟨rfl, hb⟩
  have hS3 := vo_keep hb hS2
  clear hb
  obtain ⟨_c0, _c1, _c2, _c3, _c4, _c5, _hB, _hz⟩ := id hS3
  clear hS1 hS2 hS3
  have q0 : w.heap.size < w3.heap.size := by omega
  have q1 : w.heap.size + 1 < w3.heap.size := by omega
  go_wp2_with fail
  go_ret2
  refine ⟨rfl, ?_⟩
  exact _hB.alloc (by omega) _

set_option maxHeartbeats 1000000 in
theorem impl_order_leg (a b c x z : Int) (w : World) (h : vvB a b c = true) (h' : vvB x b z = true) (h0 : a < x) (h2 : z < c) :
    Calls Try.prog 9 #[.agg #[.int .i64 a, .int .i64 b, .int .i64 c], .agg #[.int .i64 x, .int .i64 b, .int .i64 z]] w fun e w' => e = .returned (.tuple #[.int .i64 3, .int .i64 0]) ∧ Below w.heap.size w w' := by
  have n0 : (a == x) = false := beq_eq_false_iff_ne.2 (by omega)
  have n0' : (x == a) = false := beq_eq_false_iff_ne.2 (by omega)
  have n2 : (c == z) = false := beq_eq_false_iff_ne.2 (by omega)
  have n2' : (z == c) = false := beq_eq_false_iff_ne.2 (by omega)
  have ev := eqv
  go_enter Try.func9, Try.ntmps9
  go_wp2_with fail
  refine (impl_vv _ _ _ _).mono ?_
  rintro e w1 ⟨rfl, hb⟩
  have hS1 := vo_keep hb vo_start0
  clear hb
  obtain ⟨_c0, _c1, _c2, _c3, _c4, _c5, _hB, _hz⟩ := id hS1
  go_wp2_with fail
  refine (impl_vv _ _ _ _).mono ?_
  rintro e w2 ⟨rfl, hb⟩
  have hS2 := vo_keep hb hS1
  clear hb
  obtain ⟨_c0, _c1, _c2, _c3, _c4, _c5, _hB, _hz⟩ := id hS2
  go_wp2_with fail
  refine (greater_any a b c x b z x b c _ (Or.inl ⟨h0, rfl⟩) (Or.inr ⟨Int.le_refl _, rfl⟩) (Or.inr ⟨by omega, rfl⟩)).mono ?_
  rintro e w3 ⟨rfl, hb⟩
  have hS3 := vo_keep hb hS2
  clear hb
  obtain ⟨_c0, _c1, _c2, _c3, _c4, _c5, _hB, _hz⟩ := id hS3
  clear hS1 hS2 hS3
  have q0 : w.heap.size < w3.heap.size := by omega
  have q1 : w.heap.size + 1 < w3.heap.size := by omega
  go_wp2_with fail
  go_ret2
  refine ⟨rfl, ?_⟩
  exact _hB.alloc (by omega) _

set_option maxHeartbeats 1000000 in
theorem impl_order_lgl (a b c x y z : Int) (w : World) (h : vvB a b c = true) (h' : vvB x y z = true) (h0 : a < x) (h1 : y < b) (h2 : c < z) :
    Calls Try.prog 9 #[.agg #[.int .i64 a, .int .i64 b, .int .i64 c], .agg #[.int .i64 x, .int .i64 y, .int .i64 z]] w fun e w' => e = .returned (.tuple #[.int .i64 3, .int .i64 0]) ∧ Below w.heap.size w w' := by
  have n0 : (a == x) = false := beq_eq_false_iff_ne.2 (by omega)
  have n0' : (x == a) = false := beq_eq_false_iff_ne.2 (by omega)
  have n1 : (b == y) = false := beq_eq_false_iff_ne.2 (by omega)
  have n1' : (y == b) = false := beq_eq_false_iff_ne.2 (by omega)
  have n2 : (c == z) = false := beq_eq_false_iff_ne.2 (by omega)
  have n2' : (z == c) = false := beq_eq_false_iff_ne.2 (by omega)
  have ev := eqv
  go_enter Try.func9, Try.ntmps9
  go_wp2_with fail
  refine (impl_vv _ _ _ _).mono ?_
  rintro e w1 ⟨rfl, hb⟩
  have hS1 := vo_keep hb vo_start0
  clear hb
  obtain ⟨_c0, _c1, _c2, _c3, _c4, _c5, _hB, _hz⟩ := id hS1
  go_wp2_with fail
  refine (impl_vv _ _ _ _).mono ?_
  rintro e w2 ⟨rfl, hb⟩
  have hS2 := vo_keep hb hS1
  clear hb
  obtain ⟨_c0, _c1, _c2, _c3, _c4, _c5, _hB, _hz⟩ := id hS2
  go_wp2_with fail
  refine (greater_any a b c x y z x b z _ (Or.inl ⟨h0, rfl⟩) (Or.inr ⟨by omega, rfl⟩) (Or.inl ⟨h2, rfl⟩)).mono ?_
  rintro e w3 ⟨rfl, hb⟩
  have hS3 := vo_keep hb hS2
  clear hb
  obtain ⟨_c0, _c1, _c2, _c3, _c4, _c5, _hB, _hz⟩ := id hS3
  clear hS1 hS2 hS3
  have q0 : w.heap.size < w3.heap.size := by omega
  have q1 : w.heap.size + 1 < w3.heap.size := by omega
  go_wp2_with fail
  go_ret2
  refine ⟨rfl, ?_⟩
  exact _hB.alloc (by omega) _

set_option maxHeartbeats 1000000 in
theorem impl_order_lge (a b c x y : Int) (w : World) (h : vvB a b c = true) (h' : vvB x y c = true) (h0 : a < x) (h1 : y < b) :
    Calls Try.prog 9 #[.agg #[.int .i64 a, .int .i64 b, .int .i64 c], .agg #[.int .i64 x, .int .i64 y, .int .i64 c]] w fun e w' => e = .returned (.tuple #[.int .i64 3, .int .i64 0]) ∧ Below w.heap.size w w' := by
  have n0 : (a == x) = false := beq_eq_false_iff_ne.2 (by omega)
  have n0' : (x == a) = false := beq_eq_false_iff_ne.2 (by omega)
  have n1 : (b == y) = false := beq_eq_false_iff_ne.2 (by omega)
  have n1' : (y == b) = false := beq_eq_false_iff_ne.2 (by omega)
  have ev := eqv
  go_enter Try.func9, Try.ntmps9
  go_wp2_with fail
  refine (impl_vv _ _ _ _).mono ?_
  rintro e w1 ⟨rfl, hb⟩
  have hS1 := vo_keep hb vo_start0
  clear hb
  obtain ⟨_c0, _c1, _c2, _c3, _c4, _c5, _hB, _hz⟩ := id hS1
  go_wp2_with fail
  refine (impl_vv _ _ _ _).mono ?_
  rintro e w2 ⟨rfl, hb⟩
  have hS2 := vo_keep hb hS1
  clear hb
  obtain ⟨_c0, _c1, _c2, _c3, _c4, _c5, _hB, _hz⟩ := id hS2
  go_wp2_with fail
  refine (greater_any a b c x y c x b c _ (Or.inl ⟨h0, rfl⟩) (Or.inr ⟨by omega, rfl⟩) (Or.inr ⟨Int.le_refl _, rfl⟩)).mono ?_
  rintro e w3 ⟨rfl, hb⟩
  have hS3 := vo_keep hb hS2
  clear hb
  obtain ⟨_c0, _c1, _c2, _c3, _c4, _c5, _hB, _hz⟩ := id hS3
  clear hS1 hS2 hS3
  have q0 : w.heap.size < w3.heap.size := by omega
  have q1 : w.heap.size + 1 < w3.heap.size := by omega
  go_wp2_with fail
  go_ret2
  refine ⟨rfl, ?_⟩
  exact _hB.alloc (by omega) _

set_option maxHeartbeats 1000000 in
theorem impl_order_lgg (a b c x y z : Int) (w : World) (h : vvB a b c = true) (h' : vvB x y z = true) (h0 : a < x) (h1 : y < b) (h2 : z < c) :
    Calls Try.prog 9 #[.agg #[.int .i64 a, .int .i64 b, .int .i64 c], .agg #[.int .i64 x, .int .i64 y, .int .i64 z]] w fun e w' => e = .returned (.tuple #[.int .i64 3, .int .i64 0]) ∧ Below w.heap.size w w' := by
  have n0 : (a == x) = false := beq_eq_false_iff_ne.2 (by omega)
  have n0' : (x == a) = false := beq_eq_false_iff_ne.2 (by omega)
  have n1 : (b == y) = false := beq_eq_false_iff_ne.2 (by omega)
  have n1' : (y == b) = false := beq_eq_false_iff_ne.2 (by omega)
  have n2 : (c == z) = false := beq_eq_false_iff_ne.2 (by omega)
  have n2' : (z == c) = false := beq_eq_false_iff_ne.2 (by omega)
  have ev := eqv
  go_enter Try.func9, Try.ntmps9
  go_wp2_with fail
  refine (impl_vv _ _ _ _).mono ?_
  rintro e w1 ⟨rfl, hb⟩
  have hS1 := vo_keep hb vo_start0
  clear hb
  obtain ⟨_c0, _c1, _c2, _c3, _c4, _c5, _hB, _hz⟩ := id hS1
  go_wp2_with fail
  refine (impl_vv _ _ _ _).mono ?_
  rintro e w2 ⟨rfl, hb⟩
  have hS2 := vo_keep hb hS1
  clear hb
  obtain ⟨_c0, _c1, _c2, _c3, _c4, _c5, _hB, _hz⟩ := id hS2
  go_wp2_with fail
  refine (greater_any a b c x y z x b c _ (Or.inl ⟨h0, rfl⟩) (Or.inr ⟨by omega, rfl⟩) (Or.inr ⟨by omega, rfl⟩)).mono ?_
  rintro e w3 ⟨rfl, hb⟩
  have hS3 := vo_keep hb hS2
  clear hb
  obtain ⟨_c0, _c1, _c2, _c3, _c4, _c5, _hB, _hz⟩ := id hS3
  clear hS1 hS2 hS3
  have q0 : w.heap.size < w3.heap.size := by omega
  have q1 : w.heap.size + 1 < w3.heap.size := by omega
  go_wp2_with fail
  go_ret2
  refine ⟨rfl, ?_⟩
  exact _hB.alloc (by omega) _

set_option maxHeartbeats 1000000 in
theorem impl_order_ell (a b c y z : Int) (w : World) (h : vvB a b c = true) (h' : vvB a y z = true) (h1 : b < y) (h2 : c < z) :
    Calls Try.prog 9 #[.agg #[.int .i64 a, .int .i64 b, .int .i64 c], .agg #[.int .i64 a, .int .i64 y, .int .i64 z]] w fun e w' => e = .returned (.tuple #[.int .i64 1, .int .i64 0]) ∧ Below w.heap.size w w' := by
  have n1 : (b == y) = false := beq_eq_false_iff_ne.2 (by omega)
  have n1' : (y == b) = false := beq_eq_false_iff_ne.2 (by omega)
  have n2 : (c == z) = false := beq_eq_false_iff_ne.2 (by omega)
  have n2' : (z == c) = false := beq_eq_false_iff_ne.2 (by omega)
  have ev := eqv
  go_enter Try.func9, Try.ntmps9
  go_wp2_with fail
  refine (impl_vv _ _ _ _).mono ?_
  rintro e w1 ⟨rfl, hb⟩
  have hS1 := vo_keep hb vo_start0
  clear hb
  obtain ⟨_c0, _c1, _c2, _c3, _c4, _c5, _hB, _hz⟩ := id hS1
  go_wp2_with fail
  refine (impl_vv _ _ _ _).mono ?_
  rintro e w2 ⟨rfl, hb⟩
  have hS2 := vo_keep hb hS1
  clear hb
  obtain ⟨_c0, _c1, _c2, _c3, _c4, _c5, _hB, _hz⟩ := id hS2
  go_wp2_with fail
  refine (greater_any a b c a y z a y z _ (Or.inr ⟨Int.le_refl _, rfl⟩) (Or.inl ⟨h1, rfl⟩) (Or.inl ⟨h2, rfl⟩)).mono ?_
  rintro e w3 ⟨rfl, hb⟩
  have hS3 := vo_keep hb hS2
  clear hb
  obtain ⟨_c0, _c1, _c2, _c3, _c4, _c5, _hB, _hz⟩ := id hS3
  clear hS1 hS2 hS3
  have q0 : w.heap.size < w3.heap.size := by omega
  have q1 : w.heap.size + 1 < w3.heap.size := by omega
  go_wp2_with fail
  go_ret2
  refine ⟨rfl, ?_⟩
  exact _hB.alloc (by omega) _

set_option maxHeartbeats 1000000 in
theorem impl_order_ele (a b c y : Int) (w : World) (h : vvB a b c = true) (h' : vvB a y c = true) (h1 : b < y) :
    Calls Try.prog 9 #[.agg #[.int .i64 a, .int .i64 b, .int .i64 c], .agg #[.int .i64 a, .int .i64 y, .int .i64 c]] w fun e w' => e = .returned (.tuple #[.int .i64 1, .int .i64 0]) ∧ Below w.heap.size w w' := by
  have n1 : (b == y) = false := beq_eq_false_iff_ne.2 (by omega)
  have n1' : (y == b) = false := beq_eq_false_iff_ne.2 (by omega)
  have ev := eqv
  go_enter Try.func9, Try.ntmps9
  go_wp2_with fail
  refine (impl_vv _ _ _ _).mono ?_
  rintro e w1 ⟨rfl, hb⟩
  have hS1 := vo_keep hb vo_start0
  clear hb
  obtain ⟨_c0, _c1, _c2, _c3, _c4, _c5, _hB, _hz⟩ := id hS1
  go_wp2_with fail
  refine (impl_vv _ _ _ _).mono ?_
  rintro e w2 ⟨rfl, hb⟩
  have hS2 := vo_keep hb hS1
  clear hb
  obtain ⟨_c0, _c1, _c2, _c3, _c4, _c5, _hB, _hz⟩ := id hS2
  go_wp2_with fail
  refine (greater_any a b c a y c a y c _ (Or.inr ⟨Int.le_refl _, rfl⟩) (Or.inl ⟨h1, rfl⟩) (Or.inr ⟨Int.le_refl _, rfl⟩)).mono ?_
  rintro e w3 ⟨rfl, hb⟩
  have hS3 := vo_keep hb hS2
  clear hb
  obtain ⟨_c0, _c1, _c2, _c3, _c4, _c5, _hB, _hz⟩ := id hS3
  clear hS1 hS2 hS3
  have q0 : w.heap.size < w3.heap.size := by omega
  have q1 : w.heap.size + 1 < w3.heap.size := by omega
  go_wp2_with fail
  go_ret2
  refine ⟨rfl, ?_⟩
  exact _hB.alloc (by omega) _

set_option maxHeartbeats 1000000 in
theorem impl_order_elg (a b c y z : Int) (w : World) (h : vvB a b c = true) (h' : vvB a y z = true) (h1 : b < y) (h2 : z < c) :
    Calls Try.prog 9 #[.agg #[.int .i64 a, .int .i64 b, .int .i64 c], .agg #[.int .i64 a, .int .i64 y, .int .i64 z]] w fun e w' => e = .returned (.tuple #[.int .i64 3, .int .i64 0]) ∧ Below w.heap.size w w' := by
  have n1 : (b == y) = false := beq_eq_false_iff_ne.2 (by omega)
  have n1' : (y == b) = false := beq_eq_false_iff_ne.2 (by omega)
  have n2 : (c == z) = false := beq_eq_false_iff_ne.2 (by omega)
  have n2' : (z == c) = false := beq_eq_false_iff_ne.2 (by omega)
  have ev := eqv
  go_enter Try.func9, Try.ntmps9
  go_wp2_with fail
  refine (impl_vv _ _ _ _).mono ?_
  rintro e w1 ⟨rfl, hb⟩
  have hS1 := vo_keep hb vo_start0
  clear hb
  obtain ⟨_c0, _c1, _c2, _c3, _c4, _c5, _hB, _hz⟩ := id hS1
  go_wp2_with fail
  refine (impl_vv _ _ _ _).mono ?_
  rintro e w2 ⟨rfl, hb⟩
  have hS2 := vo_keep hb hS1
  clear hb
  obtain ⟨_c0, _c1, _c2, _c3, _c4, _c5, _hB, _hz⟩ := id hS2
  go_wp2_with fail
  refine (greater_any a b c a y z a y c _ (Or.inr ⟨Int.le_refl _, rfl⟩) (Or.inl ⟨h1, rfl⟩) (Or.inr ⟨by omega, rfl⟩)).mono ?_
  rintro e w3 ⟨rfl, hb⟩
  have hS3 := vo_keep hb hS2
  clear hb
  obtain ⟨_c0, _c1, _c2, _c3, _c4, _c5, _hB, _hz⟩ := id hS3
  clear hS1 hS2 hS3
  have q0 : w.heap.size < w3.heap.size := by omega
  have q1 : w.heap.size + 1 < w3.heap.size := by omega
  go_wp2_with fail
  go_ret2
  refine ⟨rfl, ?_⟩
  exact _hB.alloc (by omega) _

set_option maxHeartbeats 1000000 in
theorem impl_order_eel (a b c z : Int) (w : World) (h : vvB a b c = true) (h' : vvB a b z = true) (h2 : c < z) :
    Calls Try.prog 9 #[.agg #[.int .i64 a, .int .i64 b, .int .i64 c], .agg #[.int .i64 a, .int .i64 b, .int .i64 z]] w fun e w' => e = .returned (.tuple #[.int .i64 1, .int .i64 0]) ∧ Below w.heap.size w w' := by
  have n2 : (c == z) = false := beq_eq_false_iff_ne.2 (by omega)
  have n2' : (z == c) = false := beq_eq_false_iff_ne.2 (by omega)
  have ev := eqv
  go_enter Try.func9, Try.ntmps9
  go_wp2_with fail
  refine (impl_vv _ _ _ _).mono ?_
  rintro e w1 ⟨rfl, hb⟩
  have hS1 := vo_keep hb vo_start0
  clear hb
  obtain ⟨_c0, _c1, _c2, _c3, _c4, _c5, _hB, _hz⟩ := id hS1
  go_wp2_with fail
  refine (impl_vv _ _ _ _).mono ?_
  rintro e w2 ⟨rfl, hb⟩
  have hS2 := vo_keep hb hS1
  clear hb
  obtain ⟨_c0, _c1, _c2, _c3, _c4, _c5, _hB, _hz⟩ := id hS2
  go_wp2_with fail
  refine (greater_any a b c a b z a b z _ (Or.inr ⟨Int.le_refl _, rfl⟩) (Or.inr ⟨Int.le_refl _, rfl⟩) (Or.inl ⟨h2, rfl⟩)).mono ?_
  rintro e w3 ⟨rfl, hb⟩
  have hS3 := vo_keep hb hS2
  clear hb
  obtain ⟨_c0, _c1, _c2, _c3, _c4, _c5, _hB, _hz⟩ := id hS3
  clear hS1 hS2 hS3
  have q0 : w.heap.size < w3.heap.size := by omega
  have q1 : w.heap.size + 1 < w3.heap.size := by omega
  go_wp2_with fail
  go_ret2
  refine ⟨rfl, ?_⟩
  exact _hB.alloc (by omega) _

set_option maxHeartbeats 1000000 in
theorem impl_order_eee (a b c : Int) (w : World) (h : vvB a b c = true) (h' : vvB a b c = true)  :
    Calls Try.prog 9 #[.agg #[.int .i64 a, .int .i64 b, .int .i64 c], .agg #[.int .i64 a, .int .i64 b, .int .i64 c]] w fun e w' => e = .returned (.tuple #[.int .i64 0, .int .i64 0]) ∧ Below w.heap.size w w' := by
  have ev := eqv
  go_enter Try.func9, Try.ntmps9
  go_wp2_with fail
  refine (impl_vv _ _ _ _).mono ?_
  rintro e w1 ⟨rfl, hb⟩
  have hS1 := vo_keep hb vo_start0
  clear hb
  obtain ⟨_c0, _c1, _c2, _c3, _c4, _c5, _hB, _hz⟩ := id hS1
  go_wp2_with fail
  refine (impl_vv _ _ _ _).mono ?_
  rintro e w2 ⟨rfl, hb⟩
  have hS2 := vo_keep hb hS1
  clear hb
  obtain ⟨_c0, _c1, _c2, _c3, _c4, _c5, _hB, _hz⟩ := id hS2
  go_wp2_with fail
  refine (greater_any a b c a b c a b c _ (Or.inr ⟨Int.le_refl _, rfl⟩) (Or.inr ⟨Int.le_refl _, rfl⟩) (Or.inr ⟨Int.le_refl _, rfl⟩)).mono ?_
  rintro e w3 ⟨rfl, hb⟩
  have hS3 := vo_keep hb hS2
  clear hb
  obtain ⟨_c0, _c1, _c2, _c3, _c4, _c5, _hB, _hz⟩ := id hS3
  clear hS1 hS2 hS3
  have q0 : w.heap.size < w3.heap.size := by omega
  have q1 : w.heap.size + 1 < w3.heap.size := by omega
  go_wp2_with fail
  go_ret2
  refine ⟨rfl, ?_⟩
  exact _hB.alloc (by omega) _

set_option maxHeartbeats 1000000 in
theorem impl_order_eeg (a b c z : Int) (w : World) (h : vvB a b c = true) (h' : vvB a b z = true) (h2 : z < c) :
    Calls Try.prog 9 #[.agg #[.int .i64 a, .int .i64 b, .int .i64 c], .agg #[.int .i64 a, .int .i64 b, .int .i64 z]] w fun e w' => e = .returned (.tuple #[.int .i64 2, .int .i64 0]) ∧ Below w.heap.size w w' := by
  have n2 : (c == z) = false := beq_eq_false_iff_ne.2 (by omega)
  have n2' : (z == c) = false := beq_eq_false_iff_ne.2 (by omega)
  have ev := eqv
  go_enter Try.func9, Try.ntmps9
  go_wp2_with fail
  refine (impl_vv _ _ _ _).mono ?_
  rintro e w1 ⟨rfl, hb⟩
  have hS1 := vo_keep hb vo_start0
  clear hb
  obtain ⟨_c0, _c1, _c2, _c3, _c4, _c5, _hB, _hz⟩ := id hS1
  go_wp2_with fail
  refine (impl_vv _ _ _ _).mono ?_
  rintro e w2 ⟨rfl, hb⟩
  have hS2 := vo_keep hb hS1
  clear hb
  obtain ⟨_c0, _c1, _c2, _c3, _c4, _c5, _hB, _hz⟩ := id hS2
  go_wp2_with fail
  refine (greater_any a b c a b z a b c _ (Or.inr ⟨Int.le_refl _, rfl⟩) (Or.inr ⟨Int.le_refl _, rfl⟩) (Or.inr ⟨by omega, rfl⟩)).mono ?_
  rintro e w3 ⟨rfl, hb⟩
  have hS3 := vo_keep hb hS2
  clear hb
  obtain ⟨_c0, _c1, _c2, _c3, _c4, _c5, _hB, _hz⟩ := id hS3
  clear hS1 hS2 hS3
  have q0 : w.heap.size < w3.heap.size := by omega
  have q1 : w.heap.size + 1 < w3.heap.size := by omega
  go_wp2_with fail
  go_ret2
  refine ⟨rfl, ?_⟩
  exact _hB.alloc (by omega) _

set_option maxHeartbeats 1000000 in
theorem impl_order_egl (a b c y z : Int) (w : World) (h : vvB a b c = true) (h' : vvB a y z = true) (h1 : y < b) (h2 : c < z) :
    Calls Try.prog 9 #[.agg #[.int .i64 a, .int .i64 b, .int .i64 c], .agg #[.int .i64 a, .int .i64 y, .int .i64 z]] w fun e w' => e = .returned (.tuple #[.int .i64 3, .int .i64 0]) ∧ Below w.heap.size w w' := by
  have n1 : (b == y) = false := beq_eq_false_iff_ne.2 (by omega)
  have n1' : (y == b) = false := beq_eq_false_iff_ne.2 (by omega)
  have n2 : (c == z) = false := beq_eq_false_iff_ne.2 (by omega)
  have n2' : (z == c) = false := beq_eq_false_iff_ne.2 (by omega)
  have ev := eqv
  go_enter Try.func9, Try.ntmps9
  go_wp2_with fail
  refine (impl_vv _ _ _ _).mono ?_
  rintro e w1 ⟨rfl, hb⟩
  have hS1 := vo_keep hb vo_start0
  clear hb
  obtain ⟨_c0, _c1, _c2, _c3, _c4, _c5, _hB, _hz⟩ := id hS1
  go_wp2_with fail
  refine (impl_vv _ _ _ _).mono ?_
  rintro e w2 ⟨rfl, hb⟩
  have hS2 := vo_keep hb hS1
  clear hb
  obtain ⟨_c0, _c1, _c2, _c3, _c4, _c5, _hB, _hz⟩ := id hS2
  go_wp2_with fail
  refine (greater_any a b c a y z a b z _ (Or.inr ⟨Int.le_refl _, rfl⟩) (Or.inr ⟨by omega, rfl⟩) (Or.inl ⟨h2, rfl⟩)).mono ?_
  rintro e w3 ⟨rfl, hb⟩
  have hS3 := vo_keep hb hS2
  clear hb
  obtain ⟨_c0, _c1, _c2, _c3, _c4, _c5, _hB, _hz⟩ := id hS3
  clear hS1 hS2 hS3
  have q0 : w.heap.size < w3.heap.size := by omega
  have q1 : w.heap.size + 1 < w3.heap.size := by omega
  go_wp2_with fail
  go_ret2
  refine ⟨rfl, ?_⟩
  exact _hB.alloc (by omega) _

set_option maxHeartbeats 1000000 in
theorem impl_order_ege (a b c y : Int) (w : World) (h : vvB a b c = true) (h' : vvB a y c = true) (h1 : y < b) :
    Calls Try.prog 9 #[.agg #[.int .i64 a, .int .i64 b, .int .i64 c], .agg #[.int .i64 a, .int .i64 y, .int .i64 c]] w fun e w' => e = .returned (.tuple #[.int .i64 2, .int .i64 0]) ∧ Below w.heap.size w w' := by
  have n1 : (b == y) = false := beq_eq_false_iff_ne.2 (by omega)
  have n1' : (y == b) = false := beq_eq_false_iff_ne.2 (by omega)
  have ev := eqv
  go_enter Try.func9, Try.ntmps9
  go_wp2_with fail
  refine (impl_vv _ _ _ _).mono ?_
  rintro e w1 ⟨rfl, hb⟩
  have hS1 := vo_keep hb vo_start0
  clear hb
  obtain ⟨_c0, _c1, _c2, _c3, _c4, _c5, _hB, _hz⟩ := id hS1
  go_wp2_with fail
  refine (impl_vv _ _ _ _).mono ?_
  rintro e w2 ⟨rfl, hb⟩
  have hS2 := vo_keep hb hS1
  clear hb
  obtain ⟨_c0, _c1, _c2, _c3, _c4, _c5, _hB, _hz⟩ := id hS2
  go_wp2_with fail
  refine (greater_any a b c a y c a b c _ (Or.inr ⟨Int.le_refl _, rfl⟩) (Or.inr ⟨by omega, rfl⟩) (Or.inr ⟨Int.le_refl _, rfl⟩)).mono ?_
  rintro e w3 ⟨rfl, hb⟩
  have hS3 := vo_keep hb hS2
  clear hb
  obtain ⟨_c0, _c1, _c2, _c3, _c4, _c5, _hB, _hz⟩ := id hS3
  clear hS1 hS2 hS3
  have q0 : w.heap.size < w3.heap.size := by omega
  have q1 : w.heap.size + 1 < w3.heap.size := by omega
  go_wp2_with fail
  go_ret2
  refine ⟨rfl, ?_⟩
  exact _hB.alloc (by omega) _

set_option maxHeartbeats 1000000 in
theorem impl_order_egg (a b c y z : Int) (w : World) (h : vvB a b c = true) (h' : vvB a y z = true) (h1 : y < b) (h2 : z < c) :
    Calls Try.prog 9 #[.agg #[.int .i64 a, .int .i64 b, .int .i64 c], .agg #[.int .i64 a, .int .i64 y, .int .i64 z]] w fun e w' => e = .returned (.tuple #[.int .i64 2, .int .i64 0]) ∧ Below w.heap.size w w' := by
  have n1 : (b == y) = false := beq_eq_false_iff_ne.2 (by omega)
  have n1' : (y == b) = false := beq_eq_false_iff_ne.2 (by omega)
  have n2 : (c == z) = false := beq_eq_false_iff_ne.2 (by omega)
  have n2' : (z == c) = false := beq_eq_false_iff_ne.2 (by omega)
  have ev := eqv
  go_enter Try.func9, Try.ntmps9
  go_wp2_with fail
  refine (impl_vv _ _ _ _).mono ?_
  rintro e w1 ⟨rfl, hb⟩
  have hS1 := vo_keep hb vo_start0
  clear hb
  obtain ⟨_c0, _c1, _c2, _c3, _c4, _c5, _hB, _hz⟩ := id hS1
  go_wp2_with fail
  refine (impl_vv _ _ _ _).mono ?_
  rintro e w2 ⟨rfl, hb⟩
  have hS2 := vo_keep hb hS1
  clear hb
  obtain ⟨_c0, _c1, _c2, _c3, _c4, _c5, _hB, _hz⟩ := id hS2
  go_wp2_with fail
  refine (greater_any a b c a y z a b c _ (Or.inr ⟨Int.le_refl _, rfl⟩) (Or.inr ⟨by omega, rfl⟩) (Or.inr ⟨by omega, rfl⟩)).mono ?_
  rintro e w3 ⟨rfl, hb⟩
  have hS3 := vo_keep hb hS2
  clear hb
  obtain ⟨_c0, _c1, _c2, _c3, _c4, _c5, _hB, _hz⟩ := id hS3
  clear hS1 hS2 hS3
  have q0 : w.heap.size < w3.heap.size := by omega
  have q1 : w.heap.size + 1 < w3.heap.size := by omega
  go_wp2_with fail
  go_ret2
  refine ⟨rfl, ?_⟩
  exact _hB.alloc (by omega) _

set_option maxHeartbeats 1000000 in
theorem impl_order_gll (a b c x y z : Int) (w : World) (h : vvB a b c = true) (h' : vvB x y z = true) (h0 : x < a) (h1 : b < y) (h2 : c < z) :
    Calls Try.prog 9 #[.agg #[.int .i64 a, .int .i64 b, .int .i64 c], .agg #[.int .i64 x, .int .i64 y, .int .i64 z]] w fun e w' => e = .returned (.tuple #[.int .i64 3, .int .i64 0]) ∧ Below w.heap.size w w' := by
  have n0 : (a == x) = false := beq_eq_false_iff_ne.2 (by omega)
  have n0' : (x == a) = false := beq_eq_false_iff_ne.2 (by omega)
  have n1 : (b == y) = false := beq_eq_false_iff_ne.2 (by omega)
  have n1' : (y == b) = false := beq_eq_false_iff_ne.2 (by omega)
  have n2 : (c == z) = false := beq_eq_false_iff_ne.2 (by omega)
  have n2' : (z == c) = false := beq_eq_false_iff_ne.2 (by omega)
  have ev := eqv
  go_enter Try.func9, Try.ntmps9
  go_wp2_with fail
  refine (impl_vv _ _ _ _).mono ?_
  rintro e w1 ⟨rfl, hb⟩
  have hS1 := vo_keep hb vo_start0
  clear hb
  obtain ⟨_c0, _c1, _c2, _c3, _c4, _c5, _hB, _hz⟩ := id hS1
  go_wp2_with fail
  refine (impl_vv _ _ _ _).mono ?_
  rintro e w2 ⟨rfl, hb⟩
  have hS2 := vo_keep hb hS1
  clear hb
  obtain ⟨_c0, _c1, _c2, _c3, _c4, _c5, _hB, _hz⟩ := id hS2
  go_wp2_with fail
  refine (greater_any a b c x y z a y z _ (Or.inr ⟨by omega, rfl⟩) (Or.inl ⟨h1, rfl⟩) (Or.inl ⟨h2, rfl⟩)).mono ?_
  rintro e w3 ⟨rfl, hb⟩
  have hS3 := vo_keep hb hS2
  clear hb
  obtain ⟨_c0, _c1, _c2, _c3, _c4, _c5, _hB, _hz⟩ := id hS3
  clear hS1 hS2 hS3
  have q0 : w.heap.size < w3.heap.size := by omega
  have q1 : w.heap.size + 1 < w3.heap.size := by omega
  go_wp2_with fail
  go_ret2
  refine ⟨rfl, ?_⟩
  exact _hB.alloc (by omega) _

set_option maxHeartbeats 1000000 in
theorem impl_order_gle (a b c x y : Int) (w : World) (h : vvB a b c = true) (h' : vvB x y c = true) (h0 : x < a) (h1 : b < y) :
    Calls Try.prog 9 #[.agg #[.int .i64 a, .int .i64 b, .int .i64 c], .agg #[.int .i64 x, .int .i64 y, .int .i64 c]] w fun e w' => e = .returned (.tuple #[.int .i64 3, .int .i64 0]) ∧ Below w.heap.size w w' := by
  have n0 : (a == x) = false := beq_eq_false_iff_ne.2 (by omega)
  have n0' : (x == a) = false := beq_eq_false_iff_ne.2 (by omega)
  have n1 : (b == y) = false := beq_eq_false_iff_ne.2 (by omega)
  have n1' : (y == b) = false := beq_eq_false_iff_ne.2 (by omega)
  have ev := eqv
  go_enter Try.func9, Try.ntmps9
  go_wp2_with fail
  refine (impl_vv _ _ _ _).mono ?_
  rintro e w1 ⟨rfl, hb⟩
  have hS1 := vo_keep hb vo_start0
  clear hb
  obtain ⟨_c0, _c1, _c2, _c3, _c4, _c5, _hB, _hz⟩ := id hS1
  go_wp2_with fail
  refine (impl_vv _ _ _ _).mono ?_
  rintro e w2 ⟨rfl, hb⟩
  have hS2 := vo_keep hb hS1
  clear hb
  obtain ⟨_c0, _c1, _c2, _c3, _c4, _c5, _hB, _hz⟩ := id hS2
  go_wp2_with fail
  refine (greater_any a b c x y c a y c _ (Or.inr ⟨by omega, rfl⟩) (Or.inl ⟨h1, rfl⟩) (Or.inr ⟨Int.le_refl _, rfl⟩)).mono ?_
  rintro e w3 ⟨rfl, hb⟩
  have hS3 := vo_keep hb hS2
  clear hb
  obtain ⟨_c0, _c1, _c2, _c3, _c4, _c5, _hB, _hz⟩ := id hS3
  clear hS1 hS2 hS3
  have q0 : w.heap.size < w3.heap.size := by omega
  have q1 : w.heap.size + 1 < w3.heap.size := by omega
  go_wp2_with fail
  go_ret2
  refine ⟨rfl, ?_⟩
  exact _hB.alloc (by omega) _

set_option maxHeartbeats 1000000 in
theorem impl_order_glg (a b c x y z : Int) (w : World) (h : vvB a b c = true) (h' : vvB x y z = true) (h0 : x < a) (h1 : b < y) (h2 : z < c) :
    Calls Try.prog 9 #[.agg #[.int .i64 a, .int .i64 b, .int .i64 c], .agg #[.int .i64 x, .int .i64 y, .int .i64 z]] w fun e w' => e = .returned (.tuple #[.int .i64 3, .int .i64 0]) ∧ Below w.heap.size w w' := by
  have n0 : (a == x) = false := beq_eq_false_iff_ne.2 (by omega)
  have n0' : (x == a) = false := beq_eq_false_iff_ne.2 (by omega)
  have n1 : (b == y) = false := beq_eq_false_iff_ne.2 (by omega)
  have n1' : (y == b) = false := beq_eq_false_iff_ne.2 (by omega)
  have n2 : (c == z) = false := beq_eq_false_iff_ne.2 (by omega)
  have n2' : (z == c) = false := beq_eq_false_iff_ne.2 (by omega)
  have ev := eqv
  go_enter Try.func9, Try.ntmps9
  go_wp2_with fail
  refine (impl_vv _ _ _ _).mono ?_
  rintro e w1 ⟨rfl, hb⟩
  have hS1 := vo_keep hb vo_start0
  clear hb
  obtain ⟨_c0, _c1, _c2, _c3, _c4, _c5, _hB, _hz⟩ := id hS1
  go_wp2_with fail
  refine (impl_vv _ _ _ _).mono ?_
  rintro e w2 ⟨rfl, hb⟩
  have hS2 := vo_keep hb hS1
  clear hb
  obtain ⟨_c0, _c1, _c2, _c3, _c4, _c5, _hB, _hz⟩ := id hS2
  go_wp2_with fail
  refine (greater_any a b c x y z a y c _ (Or.inr ⟨by omega, rfl⟩) (Or.inl ⟨h1, rfl⟩) (Or.inr ⟨by omega, rfl⟩)).mono ?_
  rintro e w3 ⟨rfl, hb⟩
  have hS3 := vo_keep hb hS2
  clear hb
  obtain ⟨_c0, _c1, _c2, _c3, _c4, _c5, _hB, _hz⟩ := id hS3
  clear hS1 hS2 hS3
  have q0 : w.heap.size < w3.heap.size := by omega
  have q1 : w.heap.size + 1 < w3.heap.size := by omega
  go_wp2_with fail
  go_ret2
  refine ⟨rfl, ?_⟩
  exact _hB.alloc (by omega) _

set_option maxHeartbeats 1000000 in
theorem impl_order_gel (a b c x z : Int) (w : World) (h : vvB a b c = true) (h' : vvB x b z = true) (h0 : x < a) (h2 : c < z) :
    Calls Try.prog 9 #[.agg #[.int .i64 a, .int .i64 b, .int .i64 c], .agg #[.int .i64 x, .int .i64 b, .int .i64 z]] w fun e w' => e = .returned (.tuple #[.int .i64 3, .int .i64 0]) ∧ Below w.heap.size w w' := by
  have n0 : (a == x) = false := beq_eq_false_iff_ne.2 (by omega)
  have n0' : (x == a) = false := beq_eq_false_iff_ne.2 (by omega)
  have n2 : (c == z) = false := beq_eq_false_iff_ne.2 (by omega)
  have n2' : (z == c) = false := beq_eq_false_iff_ne.2 (by omega)
  have ev := eqv
  go_enter Try.func9, Try.ntmps9
  go_wp2_with fail
  refine (impl_vv _ _ _ _).mono ?_
  rintro e w1 ⟨rfl, hb⟩
  have hS1 := vo_keep hb vo_start0
  clear hb
  obtain ⟨_c0, _c1, _c2, _c3, _c4, _c5, _hB, _hz⟩ := id hS1
  go_wp2_with fail
  refine (impl_vv _ _ _ _).mono ?_
  rintro e w2 ⟨rfl, hb⟩
  have hS2 := vo_keep hb hS1
  clear hb
  obtain ⟨_c0, _c1, _c2, _c3, _c4, _c5, _hB, _hz⟩ := id hS2
  go_wp2_with fail
  refine (greater_any a b c x b z a b z _ (Or.inr ⟨by omega, rfl⟩) (Or.inr ⟨Int.le_refl _, rfl⟩) (Or.inl ⟨h2, rfl⟩)).mono ?_
  rintro e w3 ⟨rfl, hb⟩
  have hS3 := vo_keep hb hS2
  clear hb
  obtain ⟨_c0, _c1, _c2, _c3, _c4, _c5, _hB, _hz⟩ := id hS3
  clear hS1 hS2 hS3
  have q0 : w.heap.size < w3.heap.size := by omega
  have q1 : w.heap.size + 1 < w3.heap.size := by omega
  go_wp2_with fail
  go_ret2
  refine ⟨rfl, ?_⟩
  exact _hB.alloc (by omega) _

set_option maxHeartbeats 1000000 in
theorem impl_order_gee (a b c x : Int) (w : World) (h : vvB a b c = true) (h' : vvB x b c = true) (h0 : x < a) :
    Calls Try.prog 9 #[.agg #[.int .i64 a, .int .i64 b, .int .i64 c], .agg #[.int .i64 x, .int .i64 b, .int .i64 c]] w fun e w' => e = .returned (.tuple #[.int .i64 2, .int .i64 0]) ∧ Below w.heap.size w w' := by
  have n0 : (a == x) = false := beq_eq_false_iff_ne.2 (by omega)
  have n0' : (x == a) = false := beq_eq_false_iff_ne.2 (by omega)
  have ev := eqv
  go_enter Try.func9, Try.ntmps9
  go_wp2_with fail
  refine (impl_vv _ _ _ _).mono ?_
  rintro e w1 ⟨rfl, hb⟩
  have hS1 := vo_keep hb vo_start0
  clear hb
  obtain ⟨_c0, _c1, _c2, _c3, _c4, _c5, _hB, _hz⟩ := id hS1
  go_wp2_with fail
  refine (impl_vv _ _ _ _).mono ?_
  rintro e w2 ⟨rfl, hb⟩
  have hS2 := vo_keep hb hS1
  clear hb
  obtain ⟨_c0, _c1, _c2, _c3, _c4, _c5, _hB, _hz⟩ := id hS2
  go_wp2_with fail
  refine (greater_any a b c x b c a b c _ (Or.inr ⟨by omega, rfl⟩) (Or.inr ⟨Int.le_refl _, rfl⟩) (Or.inr ⟨Int.le_refl _, rfl⟩)).mono ?_
  rintro e w3 ⟨rfl, hb⟩
  have hS3 := vo_keep hb hS2
  clear hb
  obtain ⟨_c0, _c1, _c2, _c3, _c4, _c5, _hB, _hz⟩ := id hS3
  clear hS1 hS2 hS3
  have q0 : w.heap.size < w3.heap.size := by omega
  have q1 : w.heap.size + 1 < w3.heap.size := by omega
  go_wp2_with fail
  go_ret2
  refine ⟨rfl, ?_⟩
  exact _hB.alloc (by omega) _

set_option maxHeartbeats 1000000 in
theorem impl_order_geg (a b c x z : Int) (w : World) (h : vvB a b c = true) (h' : vvB x b z = true) (h0 : x < a) (h2 : z < c) :
    Calls Try.prog 9 #[.agg #[.int .i64 a, .int .i64 b, .int .i64 c], .agg #[.int .i64 x, .int .i64 b, .int .i64 z]] w fun e w' => e = .returned (.tuple #[.int .i64 2, .int .i64 0]) ∧ Below w.heap.size w w' := by
  have n0 : (a == x) = false := beq_eq_false_iff_ne.2 (by omega)
  have n0' : (x == a) = false := beq_eq_false_iff_ne.2 (by omega)
  have n2 : (c == z) = false := beq_eq_false_iff_ne.2 (by omega)
  have n2' : (z == c) = false := beq_eq_false_iff_ne.2 (by omega)
  have ev := eqv
  go_enter Try.func9, Try.ntmps9
  go_wp2_with fail
  refine (impl_vv _ _ _ _).mono ?_
  rintro e w1 ⟨rfl, hb⟩
  have hS1 := vo_keep hb vo_start0
  clear hb
  obtain ⟨_c0, _c1, _c2, _c3, _c4, _c5, _hB, _hz⟩ := id hS1
  go_wp2_with fail
  refine (impl_vv _ _ _ _).mono ?_
  rintro e w2 ⟨rfl, hb⟩
  have hS2 := vo_keep hb hS1
  clear hb
  obtain ⟨_c0, _c1, _c2, _c3, _c4, _c5, _hB, _hz⟩ := id hS2
  go_wp2_with fail
  refine (greater_any a b c x b z a b c _ (Or.inr ⟨by omega, rfl⟩) (Or.inr ⟨Int.le_refl _, rfl⟩) (Or.inr ⟨by omega, rfl⟩)).mono ?_
  rintro e w3 ⟨rfl, hb⟩
  have hS3 := vo_keep hb hS2
  clear hb
  obtain ⟨_c0, _c1, _c2, _c3, _c4, _c5, _hB, _hz⟩ := id hS3
  clear hS1 hS2 hS3
  have q0 : w.heap.size < w3.heap.size := by omega
  have q1 : w.heap.size + 1 < w3.heap.size := by omega
  go_wp2_with fail
  go_ret2
  refine ⟨rfl, ?_⟩
  exact _hB.alloc (by omega) _

set_option maxHeartbeats 1000000 in
theorem impl_order_ggl (a b c x y z : Int) (w : World) (h : vvB a b c = true) (h' : vvB x y z = true) (h0 : x < a) (h1 : y < b) (h2 : c < z) :
    Calls Try.prog 9 #[.agg #[.int .i64 a, .int .i64 b, .int .i64 c], .agg #[.int .i64 x, .int .i64 y, .int .i64 z]] w fun e w' => e = .returned (.tuple #[.int .i64 3, .int .i64 0]) ∧ Below w.heap.size w w' := by
  have n0 : (a == x) = false := beq_eq_false_iff_ne.2 (by omega)
  have n0' : (x == a) = false := beq_eq_false_iff_ne.2 (by omega)
  have n1 : (b == y) = false := beq_eq_false_iff_ne.2 (by omega)
  have n1' : (y == b) = false := beq_eq_false_iff_ne.2 (by omega)
  have n2 : (c == z) = false := beq_eq_false_iff_ne.2 (by omega)
  have n2' : (z == c) = false := beq_eq_false_iff_ne.2 (by omega)
  have ev := eqv
  go_enter Try.func9, Try.ntmps9
  go_wp2_with fail
  refine (impl_vv _ _ _ _).mono ?_
  rintro e w1 ⟨rfl, hb⟩
  have hS1 := vo_keep hb vo_start0
  clear hb
  obtain ⟨_c0, _c1, _c2, _c3, _c4, _c5, _hB, _hz⟩ := id hS1
  go_wp2_with fail
  refine (impl_vv _ _ _ _).mono ?_
  rintro e w2 ⟨rfl, hb⟩
  have hS2 := vo_keep hb hS1
  clear hb
  obtain ⟨_c0, _c1, _c2, _c3, _c4, _c5, _hB, _hz⟩ := id hS2
  go_wp2_with fail
  refine (greater_any a b c x y z a b z _ (Or.inr ⟨by omega, rfl⟩) (Or.inr ⟨by omega, rfl⟩) (Or.inl ⟨h2, rfl⟩)).mono ?_
  rintro e w3 ⟨rfl, hb⟩
  have hS3 := vo_keep hb hS2
  clear hb
  obtain ⟨_c0, _c1, _c2, _c3, _c4, _c5, _hB, _hz⟩ := id hS3
  clear hS1 hS2 hS3
  have q0 : w.heap.size < w3.heap.size := by omega
  have q1 : w.heap.size + 1 < w3.heap.size := by omega
  go_wp2_with fail
  go_ret2
  refine ⟨rfl, ?_⟩
  exact _hB.alloc (by omega) _

set_option maxHeartbeats 1000000 in
theorem impl_order_gge (a b c x y : Int) (w : World) (h : vvB a b c = true) (h' : vvB x y c = true) (h0 : x < a) (h1 : y < b) :
    Calls Try.prog 9 #[.agg #[.int .i64 a, .int .i64 b, .int .i64 c], .agg #[.int .i64 x, .int .i64 y, .int .i64 c]] w fun e w' => e = .returned (.tuple #[.int .i64 2, .int .i64 0]) ∧ Below w.heap.size w w' := by
  have n0 : (a == x) = false := beq_eq_false_iff_ne.2 (by omega)
  have n0' : (x == a) = false := beq_eq_false_iff_ne.2 (by omega)
  have n1 : (b == y) = false := beq_eq_false_iff_ne.2 (by omega)
  have n1' : (y == b) = false := beq_eq_false_iff_ne.2 (by omega)
  have ev := eqv
  go_enter Try.func9, Try.ntmps9
  go_wp2_with fail
  refine (impl_vv _ _ _ _).mono ?_
  rintro e w1 ⟨rfl, hb⟩
  have hS1 := vo_keep hb vo_start0
  clear hb
  obtain ⟨_c0, _c1, _c2, _c3, _c4, _c5, _hB, _hz⟩ := id hS1
  go_wp2_with fail
  refine (impl_vv _ _ _ _).mono ?_
  rintro e w2 ⟨rfl, hb⟩
  have hS2 := vo_keep hb hS1
  clear hb
  obtain ⟨_c0, _c1, _c2, _c3, _c4, _c5, _hB, _hz⟩ := id hS2
  go_wp2_with fail
  refine (greater_any a b c x y c a b c _ (Or.inr ⟨by omega, rfl⟩) (Or.inr ⟨by omega, rfl⟩) (Or.inr ⟨Int.le_refl _, rfl⟩)).mono ?_
  rintro e w3 ⟨rfl, hb⟩
  have hS3 := vo_keep hb hS2
  clear hb
  obtain ⟨_c0, _c1, _c2, _c3, _c4, _c5, _hB, _hz⟩ := id hS3
  clear hS1 hS2 hS3
  have q0 : w.heap.size < w3.heap.size := by omega
  have q1 : w.heap.size + 1 < w3.heap.size := by omega
  go_wp2_with fail
  go_ret2
  refine ⟨rfl, ?_⟩
  exact _hB.alloc (by omega) _

set_option maxHeartbeats 1000000 in
theorem impl_order_ggg (a b c x y z : Int) (w : World) (h : vvB a b c = true) (h' : vvB x y z = true) (h0 : x < a) (h1 : y < b) (h2 : z < c) :
    Calls Try.prog 9 #[.agg #[.int .i64 a, .int .i64 b, .int .i64 c], .agg #[.int .i64 x, .int .i64 y, .int .i64 z]] w fun e w' => e = .returned (.tuple #[.int .i64 2, .int .i64 0]) ∧ Below w.heap.size w w' := by
  have n0 : (a == x) = false := beq_eq_false_iff_ne.2 (by omega)
  have n0' : (x == a) = false := beq_eq_false_iff_ne.2 (by omega)
  have n1 : (b == y) = false := beq_eq_false_iff_ne.2 (by omega)
  have n1' : (y == b) = false := beq_eq_false_iff_ne.2 (by omega)
  have n2 : (c == z) = false := beq_eq_false_iff_ne.2 (by omega)
  have n2' : (z == c) = false := beq_eq_false_iff_ne.2 (by omega)
  have ev := eqv
  go_enter Try.func9, Try.ntmps9
  go_wp2_with fail
  refine (impl_vv _ _ _ _).mono ?_
  rintro e w1 ⟨rfl, hb⟩
  have hS1 := vo_keep hb vo_start0
  clear hb
  obtain ⟨_c0, _c1, _c2, _c3, _c4, _c5, _hB, _hz⟩ := id hS1
  go_wp2_with fail
  refine (impl_vv _ _ _ _).mono ?_
  rintro e w2 ⟨rfl, hb⟩
  have hS2 := vo_keep hb hS1
  clear hb
  obtain ⟨_c0, _c1, _c2, _c3, _c4, _c5, _hB, _hz⟩ := id hS2
  go_wp2_with fail
  refine (greater_any a b c x y z a b c _ (Or.inr ⟨by omega, rfl⟩) (Or.inr ⟨by omega, rfl⟩) (Or.inr ⟨by omega, rfl⟩)).mono ?_
  rintro e w3 ⟨rfl, hb⟩
  have hS3 := vo_keep hb hS2
  clear hb
  obtain ⟨_c0, _c1, _c2, _c3, _c4, _c5, _hB, _hz⟩ := id hS3
  clear hS1 hS2 hS3
  have q0 : w.heap.size < w3.heap.size := by omega
  have q1 : w.heap.size + 1 < w3.heap.size := by omega
  go_wp2_with fail
  go_ret2
  refine ⟨rfl, ?_⟩
  exact _hB.alloc (by omega) _
end Go.Proofs.Ytlnpdcnjkjakiaa

/- VvHas and VvAdd, function by function, of the program and of the specification. -/
import Derived.Test.YtcappnoghakdbahRows
import Derived.Test.YtcappnoghakdbahVv
import Derived.Test.YtcappnoghakdbahMm
import Derived.WalkKit
import Derived.WalkSpells
import Derived.WalkLawsBesides
import Derived.Deep.QuietTactic
import Derived.BigQuiet
import Derived.Deep.RegionHeld3
import Derived.LoopN
import Derived.RegionTactic
import Derived.BigRegion
namespace Go.Proofs.Ytcappnoghakdbah
open Go.RowKit
set_option linter.unusedSimpArgs false
set_option linter.unusedVariables false


def comp (a b c p : Int) : Int := if p = 0 then a else if p = 1 then b else c
theorem dot_node {p q : Int} (h : dotB p q = true) : p = 0 ∨ p = 1 ∨ p = 2 := by
  have := of_decide_eq_true h
  omega
set_option maxHeartbeats 400000 in
theorem toDot_any (p q : Int) (w : World) :
    Calls Try.prog 18 #[.agg #[.int .i64 p, .int .i64 q]] w fun e w' => e = .returned (.agg #[.int .i64 p, .int .i64 q]) ∧ Below w.heap.size w w' := by
  go_enter Try.func18, Try.ntmps18
  go_wp2
  refine bodyPost_ret (v := .agg #[.int .i64 p, .int .i64 q]) (by simp [results, Try.results18, go_sem]) rfl ⟨rfl, ?_⟩
  repeat (first | exact Below.refl _ _ | refine Below.drew ?_ | refine below_drewN ?_ _ | refine Below.alloc ?_ (by first | (simp; done) | (simp; omega)) _ | refine Below.setCell ?_ (by first | (simp; done) | (simp; omega)) _)


set_option maxHeartbeats 400000 in
theorem impl_dot (p q : Int) (w : World) :
    Calls Try.prog 30 #[.agg #[.int .i64 p, .int .i64 q]] w fun e w' => e = .returned (.bool (dotB p q)) ∧ Below w.heap.size w w' := by
  by_cases h1 : 0 ≤ p <;> by_cases h2 : p < 3 <;> by_cases h3 : 1 ≤ q <;> by_cases h4 : q ≤ 9999
  all_goals first
    | (exfalso; omega)
    | skip
  all_goals
    have HB : Hid (dotB p q = (decide (0 ≤ p ∧ p < 3 ∧ 1 ≤ q ∧ q ≤ 9999))) := rfl
    go_enter Try.func30, Try.ntmps30
    go_wp2
    go_ret
    refine ⟨ret_bool (by rw [HB.out]; simp [h1, h2, h3, h4]), ?_⟩
    repeat (first | exact Below.refl _ _ | refine Below.drew ?_ | refine below_drewN ?_ _ | refine Below.alloc ?_ (by first | (simp; done) | (simp; omega)) _ | refine Below.setCell ?_ (by first | (simp; done) | (simp; omega)) _)


set_option maxHeartbeats 400000 in
theorem spec_dot (p q : Int) (w : World) :
    Calls Try.prog 28 #[.agg #[.int .i64 p, .int .i64 q]] w fun e w' => e = .returned (.bool (dotB p q)) ∧ Below w.heap.size w w' := by
  by_cases h1 : 0 ≤ p <;> by_cases h2 : p < 3 <;> by_cases h3 : 1 ≤ q <;> by_cases h4 : q ≤ 9999
  all_goals first
    | (exfalso; omega)
    | skip
  all_goals
    have HB : Hid (dotB p q = (decide (0 ≤ p ∧ p < 3 ∧ 1 ≤ q ∧ q ≤ 9999))) := rfl
    go_enter Try.func28, Try.ntmps28
    go_wp2
    go_ret
    refine ⟨ret_bool (by rw [HB.out]; simp [h1, h2, h3, h4]), ?_⟩
    repeat (first | exact Below.refl _ _ | refine Below.drew ?_ | refine below_drewN ?_ _ | refine Below.alloc ?_ (by first | (simp; done) | (simp; omega)) _ | refine Below.setCell ?_ (by first | (simp; done) | (simp; omega)) _)


theorem vh_keep {a b c p q : Int} {w W W' : World} (hb : Below W.heap.size W W') (h : W.cell? ⟨w.heap.size, 0, none⟩ = some (.int .i64 a) ∧ W.cell? ⟨w.heap.size, 1, none⟩ = some (.int .i64 b) ∧ W.cell? ⟨w.heap.size, 2, none⟩ = some (.int .i64 c) ∧ W.cell? ⟨w.heap.size + 1, 0, none⟩ = some (.int .i64 p) ∧ W.cell? ⟨w.heap.size + 1, 1, none⟩ = some (.int .i64 q) ∧ Below w.heap.size w W ∧ w.heap.size + 2 ≤ W.heap.size) : W'.cell? ⟨w.heap.size, 0, none⟩ = some (.int .i64 a) ∧ W'.cell? ⟨w.heap.size, 1, none⟩ = some (.int .i64 b) ∧ W'.cell? ⟨w.heap.size, 2, none⟩ = some (.int .i64 c) ∧ W'.cell? ⟨w.heap.size + 1, 0, none⟩ = some (.int .i64 p) ∧ W'.cell? ⟨w.heap.size + 1, 1, none⟩ = some (.int .i64 q) ∧ Below w.heap.size w W' ∧ w.heap.size + 2 ≤ W'.heap.size := by
  obtain ⟨c0, c1, c2, c3, c4, hB, hz⟩ := h
  have hq := hb.size
  exact ⟨cell_next hb c0 (by omega), cell_next hb c1 (by omega), cell_next hb c2 (by omega), cell_next hb c3 (by omega), cell_next hb c4 (by omega), hB.trans (hb.mono (by omega)), by omega⟩
theorem vh_alloc {a b c p q : Int} {w W : World} {ob : Obj} (h : W.cell? ⟨w.heap.size, 0, none⟩ = some (.int .i64 a) ∧ W.cell? ⟨w.heap.size, 1, none⟩ = some (.int .i64 b) ∧ W.cell? ⟨w.heap.size, 2, none⟩ = some (.int .i64 c) ∧ W.cell? ⟨w.heap.size + 1, 0, none⟩ = some (.int .i64 p) ∧ W.cell? ⟨w.heap.size + 1, 1, none⟩ = some (.int .i64 q) ∧ Below w.heap.size w W ∧ w.heap.size + 2 ≤ W.heap.size) : (W.alloc ob).cell? ⟨w.heap.size, 0, none⟩ = some (.int .i64 a) ∧ (W.alloc ob).cell? ⟨w.heap.size, 1, none⟩ = some (.int .i64 b) ∧ (W.alloc ob).cell? ⟨w.heap.size, 2, none⟩ = some (.int .i64 c) ∧ (W.alloc ob).cell? ⟨w.heap.size + 1, 0, none⟩ = some (.int .i64 p) ∧ (W.alloc ob).cell? ⟨w.heap.size + 1, 1, none⟩ = some (.int .i64 q) ∧ Below w.heap.size w (W.alloc ob) ∧ w.heap.size + 2 ≤ (W.alloc ob).heap.size := vh_keep ((Below.refl _ _).alloc (Nat.le_refl _) _) h
theorem vh_drew {a b c p q : Int} {w W : World} (h : W.cell? ⟨w.heap.size, 0, none⟩ = some (.int .i64 a) ∧ W.cell? ⟨w.heap.size, 1, none⟩ = some (.int .i64 b) ∧ W.cell? ⟨w.heap.size, 2, none⟩ = some (.int .i64 c) ∧ W.cell? ⟨w.heap.size + 1, 0, none⟩ = some (.int .i64 p) ∧ W.cell? ⟨w.heap.size + 1, 1, none⟩ = some (.int .i64 q) ∧ Below w.heap.size w W ∧ w.heap.size + 2 ≤ W.heap.size) : W.drew.cell? ⟨w.heap.size, 0, none⟩ = some (.int .i64 a) ∧ W.drew.cell? ⟨w.heap.size, 1, none⟩ = some (.int .i64 b) ∧ W.drew.cell? ⟨w.heap.size, 2, none⟩ = some (.int .i64 c) ∧ W.drew.cell? ⟨w.heap.size + 1, 0, none⟩ = some (.int .i64 p) ∧ W.drew.cell? ⟨w.heap.size + 1, 1, none⟩ = some (.int .i64 q) ∧ Below w.heap.size w W.drew ∧ w.heap.size + 2 ≤ W.drew.heap.size := by
  obtain ⟨c0, c1, c2, c3, c4, hB, hz⟩ := h
  exact ⟨c0, c1, c2, c3, c4, hB.drew, hz⟩
theorem vh_below {a b c p q : Int} {w W : World} (h : W.cell? ⟨w.heap.size, 0, none⟩ = some (.int .i64 a) ∧ W.cell? ⟨w.heap.size, 1, none⟩ = some (.int .i64 b) ∧ W.cell? ⟨w.heap.size, 2, none⟩ = some (.int .i64 c) ∧ W.cell? ⟨w.heap.size + 1, 0, none⟩ = some (.int .i64 p) ∧ W.cell? ⟨w.heap.size + 1, 1, none⟩ = some (.int .i64 q) ∧ Below w.heap.size w W ∧ w.heap.size + 2 ≤ W.heap.size) : Below w.heap.size w W := by
  obtain ⟨c0, c1, c2, c3, c4, hB, hz⟩ := h
  exact hB
theorem vh_size {a b c p q : Int} {w W : World} (h : W.cell? ⟨w.heap.size, 0, none⟩ = some (.int .i64 a) ∧ W.cell? ⟨w.heap.size, 1, none⟩ = some (.int .i64 b) ∧ W.cell? ⟨w.heap.size, 2, none⟩ = some (.int .i64 c) ∧ W.cell? ⟨w.heap.size + 1, 0, none⟩ = some (.int .i64 p) ∧ W.cell? ⟨w.heap.size + 1, 1, none⟩ = some (.int .i64 q) ∧ Below w.heap.size w W ∧ w.heap.size + 2 ≤ W.heap.size) : w.heap.size + 2 ≤ W.heap.size := by
  obtain ⟨c0, c1, c2, c3, c4, hB, hz⟩ := h
  exact hz

theorem vh_set {a b c p q : Int} {w W : World} {t j : Nat} {u : Value} (h : W.cell? ⟨w.heap.size, 0, none⟩ = some (.int .i64 a) ∧ W.cell? ⟨w.heap.size, 1, none⟩ = some (.int .i64 b) ∧ W.cell? ⟨w.heap.size, 2, none⟩ = some (.int .i64 c) ∧ W.cell? ⟨w.heap.size + 1, 0, none⟩ = some (.int .i64 p) ∧ W.cell? ⟨w.heap.size + 1, 1, none⟩ = some (.int .i64 q) ∧ Below w.heap.size w W ∧ w.heap.size + 2 ≤ W.heap.size) (ht : w.heap.size + 2 ≤ t) : (W.setCell ⟨t, j, none⟩ u).cell? ⟨w.heap.size, 0, none⟩ = some (.int .i64 a) ∧ (W.setCell ⟨t, j, none⟩ u).cell? ⟨w.heap.size, 1, none⟩ = some (.int .i64 b) ∧ (W.setCell ⟨t, j, none⟩ u).cell? ⟨w.heap.size, 2, none⟩ = some (.int .i64 c) ∧ (W.setCell ⟨t, j, none⟩ u).cell? ⟨w.heap.size + 1, 0, none⟩ = some (.int .i64 p) ∧ (W.setCell ⟨t, j, none⟩ u).cell? ⟨w.heap.size + 1, 1, none⟩ = some (.int .i64 q) ∧ Below w.heap.size w (W.setCell ⟨t, j, none⟩ u) ∧ w.heap.size + 2 ≤ (W.setCell ⟨t, j, none⟩ u).heap.size := by
  obtain ⟨c0, c1, c2, c3, c4, hB, hz⟩ := h
  exact ⟨cell_set c0 (by omega), cell_set c1 (by omega), cell_set c2 (by omega), cell_set c3 (by omega), cell_set c4 (by omega), hB.setCell (by simp; omega) _, by simpa [World.setCell] using hz⟩

theorem vh_start {a b c p q : Int} {w : World} : ((w.alloc (.cells #[.int .i64 a, .int .i64 b, .int .i64 c] 24)).alloc (.cells #[.int .i64 p, .int .i64 q] 35)).drew.cell? ⟨w.heap.size, 0, none⟩ = some (.int .i64 a) ∧ ((w.alloc (.cells #[.int .i64 a, .int .i64 b, .int .i64 c] 24)).alloc (.cells #[.int .i64 p, .int .i64 q] 35)).drew.cell? ⟨w.heap.size, 1, none⟩ = some (.int .i64 b) ∧ ((w.alloc (.cells #[.int .i64 a, .int .i64 b, .int .i64 c] 24)).alloc (.cells #[.int .i64 p, .int .i64 q] 35)).drew.cell? ⟨w.heap.size, 2, none⟩ = some (.int .i64 c) ∧ ((w.alloc (.cells #[.int .i64 a, .int .i64 b, .int .i64 c] 24)).alloc (.cells #[.int .i64 p, .int .i64 q] 35)).drew.cell? ⟨w.heap.size + 1, 0, none⟩ = some (.int .i64 p) ∧ ((w.alloc (.cells #[.int .i64 a, .int .i64 b, .int .i64 c] 24)).alloc (.cells #[.int .i64 p, .int .i64 q] 35)).drew.cell? ⟨w.heap.size + 1, 1, none⟩ = some (.int .i64 q) ∧ Below w.heap.size w ((w.alloc (.cells #[.int .i64 a, .int .i64 b, .int .i64 c] 24)).alloc (.cells #[.int .i64 p, .int .i64 q] 35)).drew ∧ w.heap.size + 2 ≤ ((w.alloc (.cells #[.int .i64 a, .int .i64 b, .int .i64 c] 24)).alloc (.cells #[.int .i64 p, .int .i64 q] 35)).drew.heap.size := by
  refine ⟨?_, ?_, ?_, ?_, ?_, (((Below.refl _ _).alloc (by simp) _).alloc (by simp) _).drew, ?_⟩
  all_goals first | (go_simp; done) | (simp; done) | (simp; omega)
theorem vh_start0 {a b c p q : Int} {w : World} : ((w.alloc (.cells #[.int .i64 a, .int .i64 b, .int .i64 c] 24)).alloc (.cells #[.int .i64 p, .int .i64 q] 35)).cell? ⟨w.heap.size, 0, none⟩ = some (.int .i64 a) ∧ ((w.alloc (.cells #[.int .i64 a, .int .i64 b, .int .i64 c] 24)).alloc (.cells #[.int .i64 p, .int .i64 q] 35)).cell? ⟨w.heap.size, 1, none⟩ = some (.int .i64 b) ∧ ((w.alloc (.cells #[.int .i64 a, .int .i64 b, .int .i64 c] 24)).alloc (.cells #[.int .i64 p, .int .i64 q] 35)).cell? ⟨w.heap.size, 2, none⟩ = some (.int .i64 c) ∧ ((w.alloc (.cells #[.int .i64 a, .int .i64 b, .int .i64 c] 24)).alloc (.cells #[.int .i64 p, .int .i64 q] 35)).cell? ⟨w.heap.size + 1, 0, none⟩ = some (.int .i64 p) ∧ ((w.alloc (.cells #[.int .i64 a, .int .i64 b, .int .i64 c] 24)).alloc (.cells #[.int .i64 p, .int .i64 q] 35)).cell? ⟨w.heap.size + 1, 1, none⟩ = some (.int .i64 q) ∧ Below w.heap.size w ((w.alloc (.cells #[.int .i64 a, .int .i64 b, .int .i64 c] 24)).alloc (.cells #[.int .i64 p, .int .i64 q] 35)) ∧ w.heap.size + 2 ≤ ((w.alloc (.cells #[.int .i64 a, .int .i64 b, .int .i64 c] 24)).alloc (.cells #[.int .i64 p, .int .i64 q] 35)).heap.size := by
  refine ⟨?_, ?_, ?_, ?_, ?_, (((Below.refl _ _).alloc (by simp) _).alloc (by simp) _), ?_⟩
  all_goals first | (go_simp; done) | (simp; done) | (simp; omega)


theorem vd_keep {a b c p q : Int} {w W W' : World} (hb : Below W.heap.size W W') (h : W.cell? ⟨w.heap.size, 0, none⟩ = some (.int .i64 a) ∧ W.cell? ⟨w.heap.size, 1, none⟩ = some (.int .i64 b) ∧ W.cell? ⟨w.heap.size, 2, none⟩ = some (.int .i64 c) ∧ W.cell? ⟨w.heap.size + 1, 0, none⟩ = some (.int .i64 p) ∧ W.cell? ⟨w.heap.size + 1, 1, none⟩ = some (.int .i64 q) ∧ W.cell? ⟨w.heap.size + 2, 0, none⟩ = some (.int .i64 0) ∧ W.cell? ⟨w.heap.size + 2, 1, none⟩ = some (.int .i64 0) ∧ W.cell? ⟨w.heap.size + 2, 2, none⟩ = some (.int .i64 0) ∧ W.frozen? ⟨w.heap.size, 0, none⟩ = false ∧ W.frozen? ⟨w.heap.size, 1, none⟩ = false ∧ W.frozen? ⟨w.heap.size, 2, none⟩ = false ∧ W.frozen? ⟨w.heap.size + 2, 0, none⟩ = false ∧ W.frozen? ⟨w.heap.size + 2, 1, none⟩ = false ∧ W.frozen? ⟨w.heap.size + 2, 2, none⟩ = false ∧ Below w.heap.size w W ∧ w.heap.size + 3 ≤ W.heap.size) : W'.cell? ⟨w.heap.size, 0, none⟩ = some (.int .i64 a) ∧ W'.cell? ⟨w.heap.size, 1, none⟩ = some (.int .i64 b) ∧ W'.cell? ⟨w.heap.size, 2, none⟩ = some (.int .i64 c) ∧ W'.cell? ⟨w.heap.size + 1, 0, none⟩ = some (.int .i64 p) ∧ W'.cell? ⟨w.heap.size + 1, 1, none⟩ = some (.int .i64 q) ∧ W'.cell? ⟨w.heap.size + 2, 0, none⟩ = some (.int .i64 0) ∧ W'.cell? ⟨w.heap.size + 2, 1, none⟩ = some (.int .i64 0) ∧ W'.cell? ⟨w.heap.size + 2, 2, none⟩ = some (.int .i64 0) ∧ W'.frozen? ⟨w.heap.size, 0, none⟩ = false ∧ W'.frozen? ⟨w.heap.size, 1, none⟩ = false ∧ W'.frozen? ⟨w.heap.size, 2, none⟩ = false ∧ W'.frozen? ⟨w.heap.size + 2, 0, none⟩ = false ∧ W'.frozen? ⟨w.heap.size + 2, 1, none⟩ = false ∧ W'.frozen? ⟨w.heap.size + 2, 2, none⟩ = false ∧ Below w.heap.size w W' ∧ w.heap.size + 3 ≤ W'.heap.size := by
  obtain ⟨c0, c1, c2, c3, c4, c5, c6, c7, f0, f1, f2, f3, f4, f5, hB, hz⟩ := h
  have hq := hb.size
  exact ⟨cell_next hb c0 (by omega), cell_next hb c1 (by omega), cell_next hb c2 (by omega), cell_next hb c3 (by omega), cell_next hb c4 (by omega), cell_next hb c5 (by omega), cell_next hb c6 (by omega), cell_next hb c7 (by omega), frozen_next hb f0 (by omega), frozen_next hb f1 (by omega), frozen_next hb f2 (by omega), frozen_next hb f3 (by omega), frozen_next hb f4 (by omega), frozen_next hb f5 (by omega), hB.trans (hb.mono (by omega)), by omega⟩
theorem vd_alloc {a b c p q : Int} {w W : World} {ob : Obj} (h : W.cell? ⟨w.heap.size, 0, none⟩ = some (.int .i64 a) ∧ W.cell? ⟨w.heap.size, 1, none⟩ = some (.int .i64 b) ∧ W.cell? ⟨w.heap.size, 2, none⟩ = some (.int .i64 c) ∧ W.cell? ⟨w.heap.size + 1, 0, none⟩ = some (.int .i64 p) ∧ W.cell? ⟨w.heap.size + 1, 1, none⟩ = some (.int .i64 q) ∧ W.cell? ⟨w.heap.size + 2, 0, none⟩ = some (.int .i64 0) ∧ W.cell? ⟨w.heap.size + 2, 1, none⟩ = some (.int .i64 0) ∧ W.cell? ⟨w.heap.size + 2, 2, none⟩ = some (.int .i64 0) ∧ W.frozen? ⟨w.heap.size, 0, none⟩ = false ∧ W.frozen? ⟨w.heap.size, 1, none⟩ = false ∧ W.frozen? ⟨w.heap.size, 2, none⟩ = false ∧ W.frozen? ⟨w.heap.size + 2, 0, none⟩ = false ∧ W.frozen? ⟨w.heap.size + 2, 1, none⟩ = false ∧ W.frozen? ⟨w.heap.size + 2, 2, none⟩ = false ∧ Below w.heap.size w W ∧ w.heap.size + 3 ≤ W.heap.size) : (W.alloc ob).cell? ⟨w.heap.size, 0, none⟩ = some (.int .i64 a) ∧ (W.alloc ob).cell? ⟨w.heap.size, 1, none⟩ = some (.int .i64 b) ∧ (W.alloc ob).cell? ⟨w.heap.size, 2, none⟩ = some (.int .i64 c) ∧ (W.alloc ob).cell? ⟨w.heap.size + 1, 0, none⟩ = some (.int .i64 p) ∧ (W.alloc ob).cell? ⟨w.heap.size + 1, 1, none⟩ = some (.int .i64 q) ∧ (W.alloc ob).cell? ⟨w.heap.size + 2, 0, none⟩ = some (.int .i64 0) ∧ (W.alloc ob).cell? ⟨w.heap.size + 2, 1, none⟩ = some (.int .i64 0) ∧ (W.alloc ob).cell? ⟨w.heap.size + 2, 2, none⟩ = some (.int .i64 0) ∧ (W.alloc ob).frozen? ⟨w.heap.size, 0, none⟩ = false ∧ (W.alloc ob).frozen? ⟨w.heap.size, 1, none⟩ = false ∧ (W.alloc ob).frozen? ⟨w.heap.size, 2, none⟩ = false ∧ (W.alloc ob).frozen? ⟨w.heap.size + 2, 0, none⟩ = false ∧ (W.alloc ob).frozen? ⟨w.heap.size + 2, 1, none⟩ = false ∧ (W.alloc ob).frozen? ⟨w.heap.size + 2, 2, none⟩ = false ∧ Below w.heap.size w (W.alloc ob) ∧ w.heap.size + 3 ≤ (W.alloc ob).heap.size := vd_keep ((Below.refl _ _).alloc (Nat.le_refl _) _) h
theorem vd_drew {a b c p q : Int} {w W : World} (h : W.cell? ⟨w.heap.size, 0, none⟩ = some (.int .i64 a) ∧ W.cell? ⟨w.heap.size, 1, none⟩ = some (.int .i64 b) ∧ W.cell? ⟨w.heap.size, 2, none⟩ = some (.int .i64 c) ∧ W.cell? ⟨w.heap.size + 1, 0, none⟩ = some (.int .i64 p) ∧ W.cell? ⟨w.heap.size + 1, 1, none⟩ = some (.int .i64 q) ∧ W.cell? ⟨w.heap.size + 2, 0, none⟩ = some (.int .i64 0) ∧ W.cell? ⟨w.heap.size + 2, 1, none⟩ = some (.int .i64 0) ∧ W.cell? ⟨w.heap.size + 2, 2, none⟩ = some (.int .i64 0) ∧ W.frozen? ⟨w.heap.size, 0, none⟩ = false ∧ W.frozen? ⟨w.heap.size, 1, none⟩ = false ∧ W.frozen? ⟨w.heap.size, 2, none⟩ = false ∧ W.frozen? ⟨w.heap.size + 2, 0, none⟩ = false ∧ W.frozen? ⟨w.heap.size + 2, 1, none⟩ = false ∧ W.frozen? ⟨w.heap.size + 2, 2, none⟩ = false ∧ Below w.heap.size w W ∧ w.heap.size + 3 ≤ W.heap.size) : W.drew.cell? ⟨w.heap.size, 0, none⟩ = some (.int .i64 a) ∧ W.drew.cell? ⟨w.heap.size, 1, none⟩ = some (.int .i64 b) ∧ W.drew.cell? ⟨w.heap.size, 2, none⟩ = some (.int .i64 c) ∧ W.drew.cell? ⟨w.heap.size + 1, 0, none⟩ = some (.int .i64 p) ∧ W.drew.cell? ⟨w.heap.size + 1, 1, none⟩ = some (.int .i64 q) ∧ W.drew.cell? ⟨w.heap.size + 2, 0, none⟩ = some (.int .i64 0) ∧ W.drew.cell? ⟨w.heap.size + 2, 1, none⟩ = some (.int .i64 0) ∧ W.drew.cell? ⟨w.heap.size + 2, 2, none⟩ = some (.int .i64 0) ∧ W.drew.frozen? ⟨w.heap.size, 0, none⟩ = false ∧ W.drew.frozen? ⟨w.heap.size, 1, none⟩ = false ∧ W.drew.frozen? ⟨w.heap.size, 2, none⟩ = false ∧ W.drew.frozen? ⟨w.heap.size + 2, 0, none⟩ = false ∧ W.drew.frozen? ⟨w.heap.size + 2, 1, none⟩ = false ∧ W.drew.frozen? ⟨w.heap.size + 2, 2, none⟩ = false ∧ Below w.heap.size w W.drew ∧ w.heap.size + 3 ≤ W.drew.heap.size := by
  obtain ⟨c0, c1, c2, c3, c4, c5, c6, c7, f0, f1, f2, f3, f4, f5, hB, hz⟩ := h
  exact ⟨c0, c1, c2, c3, c4, c5, c6, c7, f0, f1, f2, f3, f4, f5, hB.drew, hz⟩
theorem vd_below {a b c p q : Int} {w W : World} (h : W.cell? ⟨w.heap.size, 0, none⟩ = some (.int .i64 a) ∧ W.cell? ⟨w.heap.size, 1, none⟩ = some (.int .i64 b) ∧ W.cell? ⟨w.heap.size, 2, none⟩ = some (.int .i64 c) ∧ W.cell? ⟨w.heap.size + 1, 0, none⟩ = some (.int .i64 p) ∧ W.cell? ⟨w.heap.size + 1, 1, none⟩ = some (.int .i64 q) ∧ W.cell? ⟨w.heap.size + 2, 0, none⟩ = some (.int .i64 0) ∧ W.cell? ⟨w.heap.size + 2, 1, none⟩ = some (.int .i64 0) ∧ W.cell? ⟨w.heap.size + 2, 2, none⟩ = some (.int .i64 0) ∧ W.frozen? ⟨w.heap.size, 0, none⟩ = false ∧ W.frozen? ⟨w.heap.size, 1, none⟩ = false ∧ W.frozen? ⟨w.heap.size, 2, none⟩ = false ∧ W.frozen? ⟨w.heap.size + 2, 0, none⟩ = false ∧ W.frozen? ⟨w.heap.size + 2, 1, none⟩ = false ∧ W.frozen? ⟨w.heap.size + 2, 2, none⟩ = false ∧ Below w.heap.size w W ∧ w.heap.size + 3 ≤ W.heap.size) : Below w.heap.size w W := by
  obtain ⟨c0, c1, c2, c3, c4, c5, c6, c7, f0, f1, f2, f3, f4, f5, hB, hz⟩ := h
  exact hB
theorem vd_size {a b c p q : Int} {w W : World} (h : W.cell? ⟨w.heap.size, 0, none⟩ = some (.int .i64 a) ∧ W.cell? ⟨w.heap.size, 1, none⟩ = some (.int .i64 b) ∧ W.cell? ⟨w.heap.size, 2, none⟩ = some (.int .i64 c) ∧ W.cell? ⟨w.heap.size + 1, 0, none⟩ = some (.int .i64 p) ∧ W.cell? ⟨w.heap.size + 1, 1, none⟩ = some (.int .i64 q) ∧ W.cell? ⟨w.heap.size + 2, 0, none⟩ = some (.int .i64 0) ∧ W.cell? ⟨w.heap.size + 2, 1, none⟩ = some (.int .i64 0) ∧ W.cell? ⟨w.heap.size + 2, 2, none⟩ = some (.int .i64 0) ∧ W.frozen? ⟨w.heap.size, 0, none⟩ = false ∧ W.frozen? ⟨w.heap.size, 1, none⟩ = false ∧ W.frozen? ⟨w.heap.size, 2, none⟩ = false ∧ W.frozen? ⟨w.heap.size + 2, 0, none⟩ = false ∧ W.frozen? ⟨w.heap.size + 2, 1, none⟩ = false ∧ W.frozen? ⟨w.heap.size + 2, 2, none⟩ = false ∧ Below w.heap.size w W ∧ w.heap.size + 3 ≤ W.heap.size) : w.heap.size + 3 ≤ W.heap.size := by
  obtain ⟨c0, c1, c2, c3, c4, c5, c6, c7, f0, f1, f2, f3, f4, f5, hB, hz⟩ := h
  exact hz

theorem vd_start {a b c p q : Int} {w : World} : (((w.alloc (.cells #[.int .i64 a, .int .i64 b, .int .i64 c] 24)).alloc (.cells #[.int .i64 p, .int .i64 q] 35)).alloc (.cells #[.int .i64 0, .int .i64 0, .int .i64 0] 24)).drew.cell? ⟨w.heap.size, 0, none⟩ = some (.int .i64 a) ∧ (((w.alloc (.cells #[.int .i64 a, .int .i64 b, .int .i64 c] 24)).alloc (.cells #[.int .i64 p, .int .i64 q] 35)).alloc (.cells #[.int .i64 0, .int .i64 0, .int .i64 0] 24)).drew.cell? ⟨w.heap.size, 1, none⟩ = some (.int .i64 b) ∧ (((w.alloc (.cells #[.int .i64 a, .int .i64 b, .int .i64 c] 24)).alloc (.cells #[.int .i64 p, .int .i64 q] 35)).alloc (.cells #[.int .i64 0, .int .i64 0, .int .i64 0] 24)).drew.cell? ⟨w.heap.size, 2, none⟩ = some (.int .i64 c) ∧ (((w.alloc (.cells #[.int .i64 a, .int .i64 b, .int .i64 c] 24)).alloc (.cells #[.int .i64 p, .int .i64 q] 35)).alloc (.cells #[.int .i64 0, .int .i64 0, .int .i64 0] 24)).drew.cell? ⟨w.heap.size + 1, 0, none⟩ = some (.int .i64 p) ∧ (((w.alloc (.cells #[.int .i64 a, .int .i64 b, .int .i64 c] 24)).alloc (.cells #[.int .i64 p, .int .i64 q] 35)).alloc (.cells #[.int .i64 0, .int .i64 0, .int .i64 0] 24)).drew.cell? ⟨w.heap.size + 1, 1, none⟩ = some (.int .i64 q) ∧ (((w.alloc (.cells #[.int .i64 a, .int .i64 b, .int .i64 c] 24)).alloc (.cells #[.int .i64 p, .int .i64 q] 35)).alloc (.cells #[.int .i64 0, .int .i64 0, .int .i64 0] 24)).drew.cell? ⟨w.heap.size + 2, 0, none⟩ = some (.int .i64 0) ∧ (((w.alloc (.cells #[.int .i64 a, .int .i64 b, .int .i64 c] 24)).alloc (.cells #[.int .i64 p, .int .i64 q] 35)).alloc (.cells #[.int .i64 0, .int .i64 0, .int .i64 0] 24)).drew.cell? ⟨w.heap.size + 2, 1, none⟩ = some (.int .i64 0) ∧ (((w.alloc (.cells #[.int .i64 a, .int .i64 b, .int .i64 c] 24)).alloc (.cells #[.int .i64 p, .int .i64 q] 35)).alloc (.cells #[.int .i64 0, .int .i64 0, .int .i64 0] 24)).drew.cell? ⟨w.heap.size + 2, 2, none⟩ = some (.int .i64 0) ∧ (((w.alloc (.cells #[.int .i64 a, .int .i64 b, .int .i64 c] 24)).alloc (.cells #[.int .i64 p, .int .i64 q] 35)).alloc (.cells #[.int .i64 0, .int .i64 0, .int .i64 0] 24)).drew.frozen? ⟨w.heap.size, 0, none⟩ = false ∧ (((w.alloc (.cells #[.int .i64 a, .int .i64 b, .int .i64 c] 24)).alloc (.cells #[.int .i64 p, .int .i64 q] 35)).alloc (.cells #[.int .i64 0, .int .i64 0, .int .i64 0] 24)).drew.frozen? ⟨w.heap.size, 1, none⟩ = false ∧ (((w.alloc (.cells #[.int .i64 a, .int .i64 b, .int .i64 c] 24)).alloc (.cells #[.int .i64 p, .int .i64 q] 35)).alloc (.cells #[.int .i64 0, .int .i64 0, .int .i64 0] 24)).drew.frozen? ⟨w.heap.size, 2, none⟩ = false ∧ (((w.alloc (.cells #[.int .i64 a, .int .i64 b, .int .i64 c] 24)).alloc (.cells #[.int .i64 p, .int .i64 q] 35)).alloc (.cells #[.int .i64 0, .int .i64 0, .int .i64 0] 24)).drew.frozen? ⟨w.heap.size + 2, 0, none⟩ = false ∧ (((w.alloc (.cells #[.int .i64 a, .int .i64 b, .int .i64 c] 24)).alloc (.cells #[.int .i64 p, .int .i64 q] 35)).alloc (.cells #[.int .i64 0, .int .i64 0, .int .i64 0] 24)).drew.frozen? ⟨w.heap.size + 2, 1, none⟩ = false ∧ (((w.alloc (.cells #[.int .i64 a, .int .i64 b, .int .i64 c] 24)).alloc (.cells #[.int .i64 p, .int .i64 q] 35)).alloc (.cells #[.int .i64 0, .int .i64 0, .int .i64 0] 24)).drew.frozen? ⟨w.heap.size + 2, 2, none⟩ = false ∧ Below w.heap.size w (((w.alloc (.cells #[.int .i64 a, .int .i64 b, .int .i64 c] 24)).alloc (.cells #[.int .i64 p, .int .i64 q] 35)).alloc (.cells #[.int .i64 0, .int .i64 0, .int .i64 0] 24)).drew ∧ w.heap.size + 3 ≤ (((w.alloc (.cells #[.int .i64 a, .int .i64 b, .int .i64 c] 24)).alloc (.cells #[.int .i64 p, .int .i64 q] 35)).alloc (.cells #[.int .i64 0, .int .i64 0, .int .i64 0] 24)).drew.heap.size := by
  refine ⟨?_, ?_, ?_, ?_, ?_, ?_, ?_, ?_, ?_, ?_, ?_, ?_, ?_, ?_, ((((Below.refl _ _).alloc (by simp) _).alloc (by simp) _).alloc (by simp; omega) _).drew, ?_⟩
  all_goals first | (go_simp; done) | (simp; done) | (simp; omega)
theorem vd_start0 {a b c p q : Int} {w : World} : (((w.alloc (.cells #[.int .i64 a, .int .i64 b, .int .i64 c] 24)).alloc (.cells #[.int .i64 p, .int .i64 q] 35)).alloc (.cells #[.int .i64 0, .int .i64 0, .int .i64 0] 24)).cell? ⟨w.heap.size, 0, none⟩ = some (.int .i64 a) ∧ (((w.alloc (.cells #[.int .i64 a, .int .i64 b, .int .i64 c] 24)).alloc (.cells #[.int .i64 p, .int .i64 q] 35)).alloc (.cells #[.int .i64 0, .int .i64 0, .int .i64 0] 24)).cell? ⟨w.heap.size, 1, none⟩ = some (.int .i64 b) ∧ (((w.alloc (.cells #[.int .i64 a, .int .i64 b, .int .i64 c] 24)).alloc (.cells #[.int .i64 p, .int .i64 q] 35)).alloc (.cells #[.int .i64 0, .int .i64 0, .int .i64 0] 24)).cell? ⟨w.heap.size, 2, none⟩ = some (.int .i64 c) ∧ (((w.alloc (.cells #[.int .i64 a, .int .i64 b, .int .i64 c] 24)).alloc (.cells #[.int .i64 p, .int .i64 q] 35)).alloc (.cells #[.int .i64 0, .int .i64 0, .int .i64 0] 24)).cell? ⟨w.heap.size + 1, 0, none⟩ = some (.int .i64 p) ∧ (((w.alloc (.cells #[.int .i64 a, .int .i64 b, .int .i64 c] 24)).alloc (.cells #[.int .i64 p, .int .i64 q] 35)).alloc (.cells #[.int .i64 0, .int .i64 0, .int .i64 0] 24)).cell? ⟨w.heap.size + 1, 1, none⟩ = some (.int .i64 q) ∧ (((w.alloc (.cells #[.int .i64 a, .int .i64 b, .int .i64 c] 24)).alloc (.cells #[.int .i64 p, .int .i64 q] 35)).alloc (.cells #[.int .i64 0, .int .i64 0, .int .i64 0] 24)).cell? ⟨w.heap.size + 2, 0, none⟩ = some (.int .i64 0) ∧ (((w.alloc (.cells #[.int .i64 a, .int .i64 b, .int .i64 c] 24)).alloc (.cells #[.int .i64 p, .int .i64 q] 35)).alloc (.cells #[.int .i64 0, .int .i64 0, .int .i64 0] 24)).cell? ⟨w.heap.size + 2, 1, none⟩ = some (.int .i64 0) ∧ (((w.alloc (.cells #[.int .i64 a, .int .i64 b, .int .i64 c] 24)).alloc (.cells #[.int .i64 p, .int .i64 q] 35)).alloc (.cells #[.int .i64 0, .int .i64 0, .int .i64 0] 24)).cell? ⟨w.heap.size + 2, 2, none⟩ = some (.int .i64 0) ∧ (((w.alloc (.cells #[.int .i64 a, .int .i64 b, .int .i64 c] 24)).alloc (.cells #[.int .i64 p, .int .i64 q] 35)).alloc (.cells #[.int .i64 0, .int .i64 0, .int .i64 0] 24)).frozen? ⟨w.heap.size, 0, none⟩ = false ∧ (((w.alloc (.cells #[.int .i64 a, .int .i64 b, .int .i64 c] 24)).alloc (.cells #[.int .i64 p, .int .i64 q] 35)).alloc (.cells #[.int .i64 0, .int .i64 0, .int .i64 0] 24)).frozen? ⟨w.heap.size, 1, none⟩ = false ∧ (((w.alloc (.cells #[.int .i64 a, .int .i64 b, .int .i64 c] 24)).alloc (.cells #[.int .i64 p, .int .i64 q] 35)).alloc (.cells #[.int .i64 0, .int .i64 0, .int .i64 0] 24)).frozen? ⟨w.heap.size, 2, none⟩ = false ∧ (((w.alloc (.cells #[.int .i64 a, .int .i64 b, .int .i64 c] 24)).alloc (.cells #[.int .i64 p, .int .i64 q] 35)).alloc (.cells #[.int .i64 0, .int .i64 0, .int .i64 0] 24)).frozen? ⟨w.heap.size + 2, 0, none⟩ = false ∧ (((w.alloc (.cells #[.int .i64 a, .int .i64 b, .int .i64 c] 24)).alloc (.cells #[.int .i64 p, .int .i64 q] 35)).alloc (.cells #[.int .i64 0, .int .i64 0, .int .i64 0] 24)).frozen? ⟨w.heap.size + 2, 1, none⟩ = false ∧ (((w.alloc (.cells #[.int .i64 a, .int .i64 b, .int .i64 c] 24)).alloc (.cells #[.int .i64 p, .int .i64 q] 35)).alloc (.cells #[.int .i64 0, .int .i64 0, .int .i64 0] 24)).frozen? ⟨w.heap.size + 2, 2, none⟩ = false ∧ Below w.heap.size w (((w.alloc (.cells #[.int .i64 a, .int .i64 b, .int .i64 c] 24)).alloc (.cells #[.int .i64 p, .int .i64 q] 35)).alloc (.cells #[.int .i64 0, .int .i64 0, .int .i64 0] 24)) ∧ w.heap.size + 3 ≤ (((w.alloc (.cells #[.int .i64 a, .int .i64 b, .int .i64 c] 24)).alloc (.cells #[.int .i64 p, .int .i64 q] 35)).alloc (.cells #[.int .i64 0, .int .i64 0, .int .i64 0] 24)).heap.size := by
  refine ⟨?_, ?_, ?_, ?_, ?_, ?_, ?_, ?_, ?_, ?_, ?_, ?_, ?_, ?_, ((((Below.refl _ _).alloc (by simp) _).alloc (by simp) _).alloc (by simp; omega) _), ?_⟩
  all_goals first | (go_simp; done) | (simp; done) | (simp; omega)


set_option maxHeartbeats 1000000 in
theorem spec_has_bad1 (a b c p q : Int) (w : World) (h : vvB a b c = false) :
    Calls Try.prog 17 #[.agg #[.int .i64 a, .int .i64 b, .int .i64 c], .agg #[.int .i64 p, .int .i64 q]] w fun e w' => e = .returned (.tuple #[.bool false, .int .i64 1]) ∧ Below w.heap.size w w' := by
  go_enter Try.func17, Try.ntmps17
  go_wp2_with fail
  refine (spec_vv _ _ _ _).mono ?_
  rintro e w1 ⟨rfl, hb⟩
  have hS1 := vh_keep hb vh_start0
  clear hb
  obtain ⟨_c0, _c1, _c2, _c3, _c4, _hB, _hz⟩ := id hS1
  go_wp2_with fail
  go_ret2
  refine ⟨rfl, ?_⟩
  repeat (first | exact _hB | exact Below.refl _ _ | refine Below.drew ?_ | refine below_drewN ?_ _ | refine Below.alloc ?_ (by first | (simp; done) | (simp; omega)) _ | refine Below.setCell ?_ (by first | (simp; done) | (simp; omega)) _)

set_option maxHeartbeats 1000000 in
theorem spec_has_bad2 (a b c p q : Int) (w : World) (h : vvB a b c = true) (h' : dotB p q = false) :
    Calls Try.prog 17 #[.agg #[.int .i64 a, .int .i64 b, .int .i64 c], .agg #[.int .i64 p, .int .i64 q]] w fun e w' => e = .returned (.tuple #[.bool false, .int .i64 1]) ∧ Below w.heap.size w w' := by
  go_enter Try.func17, Try.ntmps17
  go_wp2_with fail
  refine (spec_vv _ _ _ _).mono ?_
  rintro e w1 ⟨rfl, hb⟩
  have hS1 := vh_keep hb vh_start0
  clear hb
  obtain ⟨_c0, _c1, _c2, _c3, _c4, _hB, _hz⟩ := id hS1
  go_wp2_with fail
  refine (spec_dot _ _ _).mono ?_
  rintro e w2 ⟨rfl, hb⟩
  have hS2 := vh_keep hb hS1
  clear hb
  obtain ⟨_c0, _c1, _c2, _c3, _c4, _hB, _hz⟩ := id hS2
  go_wp2_with fail
  go_ret2
  refine ⟨rfl, ?_⟩
  repeat (first | exact _hB | exact Below.refl _ _ | refine Below.drew ?_ | refine below_drewN ?_ _ | refine Below.alloc ?_ (by first | (simp; done) | (simp; omega)) _ | refine Below.setCell ?_ (by first | (simp; done) | (simp; omega)) _)


set_option maxHeartbeats 1000000 in
theorem impl_has_bad1 (a b c p q : Int) (w : World) (h : vvB a b c = false) :
    Calls Try.prog 19 #[.agg #[.int .i64 a, .int .i64 b, .int .i64 c], .agg #[.int .i64 p, .int .i64 q]] w fun e w' => e = .returned (.tuple #[.bool false, .int .i64 1]) ∧ Below w.heap.size w w' := by
  go_enter Try.func19, Try.ntmps19
  go_wp2_with fail
  refine (impl_vv _ _ _ _).mono ?_
  rintro e w1 ⟨rfl, hb⟩
  have hS1 := vh_keep hb vh_start0
  clear hb
  obtain ⟨_c0, _c1, _c2, _c3, _c4, _hB, _hz⟩ := id hS1
  go_wp2_with fail
  go_ret2
  refine ⟨rfl, ?_⟩
  repeat (first | exact _hB | exact Below.refl _ _ | refine Below.drew ?_ | refine below_drewN ?_ _ | refine Below.alloc ?_ (by first | (simp; done) | (simp; omega)) _ | refine Below.setCell ?_ (by first | (simp; done) | (simp; omega)) _)

set_option maxHeartbeats 1000000 in
theorem impl_has_bad2 (a b c p q : Int) (w : World) (h : vvB a b c = true) (h' : dotB p q = false) :
    Calls Try.prog 19 #[.agg #[.int .i64 a, .int .i64 b, .int .i64 c], .agg #[.int .i64 p, .int .i64 q]] w fun e w' => e = .returned (.tuple #[.bool false, .int .i64 1]) ∧ Below w.heap.size w w' := by
  go_enter Try.func19, Try.ntmps19
  go_wp2_with fail
  refine (impl_vv _ _ _ _).mono ?_
  rintro e w1 ⟨rfl, hb⟩
  have hS1 := vh_keep hb vh_start0
  clear hb
  obtain ⟨_c0, _c1, _c2, _c3, _c4, _hB, _hz⟩ := id hS1
  go_wp2_with fail
  refine (impl_dot _ _ _).mono ?_
  rintro e w2 ⟨rfl, hb⟩
  have hS2 := vh_keep hb hS1
  clear hb
  obtain ⟨_c0, _c1, _c2, _c3, _c4, _hB, _hz⟩ := id hS2
  go_wp2_with fail
  go_ret2
  refine ⟨rfl, ?_⟩
  repeat (first | exact _hB | exact Below.refl _ _ | refine Below.drew ?_ | refine below_drewN ?_ _ | refine Below.alloc ?_ (by first | (simp; done) | (simp; omega)) _ | refine Below.setCell ?_ (by first | (simp; done) | (simp; omega)) _)


set_option maxHeartbeats 1000000 in
theorem spec_add_bad1 (a b c p q : Int) (w : World) (h : vvB a b c = false) :
    Calls Try.prog 20 #[.agg #[.int .i64 a, .int .i64 b, .int .i64 c], .agg #[.int .i64 p, .int .i64 q]] w fun e w' => e = .returned (.tuple #[.agg #[.int .i64 0, .int .i64 0, .int .i64 0], .int .i64 1]) ∧ Below w.heap.size w w' := by
  go_enter Try.func20, Try.ntmps20
  go_wp2_with fail
  refine (spec_vv _ _ _ _).mono ?_
  rintro e w1 ⟨rfl, hb⟩
  have hS1 := vd_keep hb vd_start0
  clear hb
  obtain ⟨_c0, _c1, _c2, _c3, _c4, _c5, _c6, _c7, _c8, _c9, _c10, _c11, _c12, _c13, _hB, _hz⟩ := id hS1
  go_wp2_with fail
  refine bodyPost_ret (v := .tuple #[.agg #[.int .i64 0, .int .i64 0, .int .i64 0], .int .i64 1]) (by simp [results, Try.results20, go_sem, _c5, _c6, _c7, _c11, _c12, _c13]) rfl ⟨rfl, ?_⟩
  repeat (first | exact _hB | exact Below.refl _ _ | refine Below.drew ?_ | refine below_drewN ?_ _ | refine Below.alloc ?_ (by first | (simp; done) | (simp; omega)) _ | refine Below.setCell ?_ (by first | (simp; done) | (simp; omega)) _)

set_option maxHeartbeats 1000000 in
theorem spec_add_bad2 (a b c p q : Int) (w : World) (h : vvB a b c = true) (h' : dotB p q = false) :
    Calls Try.prog 20 #[.agg #[.int .i64 a, .int .i64 b, .int .i64 c], .agg #[.int .i64 p, .int .i64 q]] w fun e w' => e = .returned (.tuple #[.agg #[.int .i64 0, .int .i64 0, .int .i64 0], .int .i64 1]) ∧ Below w.heap.size w w' := by
  go_enter Try.func20, Try.ntmps20
  go_wp2_with fail
  refine (spec_vv _ _ _ _).mono ?_
  rintro e w1 ⟨rfl, hb⟩
  have hS1 := vd_keep hb vd_start0
  clear hb
  obtain ⟨_c0, _c1, _c2, _c3, _c4, _c5, _c6, _c7, _c8, _c9, _c10, _c11, _c12, _c13, _hB, _hz⟩ := id hS1
  go_wp2_with fail
  refine (spec_dot _ _ _).mono ?_
  rintro e w2 ⟨rfl, hb⟩
  have hS2 := vd_keep hb hS1
  clear hb
  obtain ⟨_c0, _c1, _c2, _c3, _c4, _c5, _c6, _c7, _c8, _c9, _c10, _c11, _c12, _c13, _hB, _hz⟩ := id hS2
  go_wp2_with fail
  refine bodyPost_ret (v := .tuple #[.agg #[.int .i64 0, .int .i64 0, .int .i64 0], .int .i64 1]) (by simp [results, Try.results20, go_sem, _c5, _c6, _c7, _c11, _c12, _c13]) rfl ⟨rfl, ?_⟩
  repeat (first | exact _hB | exact Below.refl _ _ | refine Below.drew ?_ | refine below_drewN ?_ _ | refine Below.alloc ?_ (by first | (simp; done) | (simp; omega)) _ | refine Below.setCell ?_ (by first | (simp; done) | (simp; omega)) _)


set_option maxHeartbeats 1000000 in
theorem impl_add_bad1 (a b c p q : Int) (w : World) (h : vvB a b c = false) :
    Calls Try.prog 21 #[.agg #[.int .i64 a, .int .i64 b, .int .i64 c], .agg #[.int .i64 p, .int .i64 q]] w fun e w' => e = .returned (.tuple #[.agg #[.int .i64 0, .int .i64 0, .int .i64 0], .int .i64 1]) ∧ Below w.heap.size w w' := by
  go_enter Try.func21, Try.ntmps21
  go_wp2_with fail
  refine (impl_vv _ _ _ _).mono ?_
  rintro e w1 ⟨rfl, hb⟩
  have hS1 := vd_keep hb vd_start0
  clear hb
  obtain ⟨_c0, _c1, _c2, _c3, _c4, _c5, _c6, _c7, _c8, _c9, _c10, _c11, _c12, _c13, _hB, _hz⟩ := id hS1
  go_wp2_with fail
  refine bodyPost_ret (v := .tuple #[.agg #[.int .i64 0, .int .i64 0, .int .i64 0], .int .i64 1]) (by simp [results, Try.results21, go_sem, _c5, _c6, _c7, _c11, _c12, _c13]) rfl ⟨rfl, ?_⟩
  repeat (first | exact _hB | exact Below.refl _ _ | refine Below.drew ?_ | refine below_drewN ?_ _ | refine Below.alloc ?_ (by first | (simp; done) | (simp; omega)) _ | refine Below.setCell ?_ (by first | (simp; done) | (simp; omega)) _)

set_option maxHeartbeats 1000000 in
theorem impl_add_bad2 (a b c p q : Int) (w : World) (h : vvB a b c = true) (h' : dotB p q = false) :
    Calls Try.prog 21 #[.agg #[.int .i64 a, .int .i64 b, .int .i64 c], .agg #[.int .i64 p, .int .i64 q]] w fun e w' => e = .returned (.tuple #[.agg #[.int .i64 0, .int .i64 0, .int .i64 0], .int .i64 1]) ∧ Below w.heap.size w w' := by
  go_enter Try.func21, Try.ntmps21
  go_wp2_with fail
  refine (impl_vv _ _ _ _).mono ?_
  rintro e w1 ⟨rfl, hb⟩
  have hS1 := vd_keep hb vd_start0
  clear hb
  obtain ⟨_c0, _c1, _c2, _c3, _c4, _c5, _c6, _c7, _c8, _c9, _c10, _c11, _c12, _c13, _hB, _hz⟩ := id hS1
  go_wp2_with fail
  refine (impl_dot _ _ _).mono ?_
  rintro e w2 ⟨rfl, hb⟩
  have hS2 := vd_keep hb hS1
  clear hb
  obtain ⟨_c0, _c1, _c2, _c3, _c4, _c5, _c6, _c7, _c8, _c9, _c10, _c11, _c12, _c13, _hB, _hz⟩ := id hS2
  go_wp2_with fail
  refine bodyPost_ret (v := .tuple #[.agg #[.int .i64 0, .int .i64 0, .int .i64 0], .int .i64 1]) (by simp [results, Try.results21, go_sem, _c5, _c6, _c7, _c11, _c12, _c13]) rfl ⟨rfl, ?_⟩
  repeat (first | exact _hB | exact Below.refl _ _ | refine Below.drew ?_ | refine below_drewN ?_ _ | refine Below.alloc ?_ (by first | (simp; done) | (simp; omega)) _ | refine Below.setCell ?_ (by first | (simp; done) | (simp; omega)) _)


set_option maxHeartbeats 1000000 in
theorem l01has_0true (a b c q : Int) (w : World) (hq : q ≤ a) :
    Calls Try.prog 29 #[.agg #[.int .i64 a, .int .i64 b, .int .i64 c], .agg #[.int .i64 0, .int .i64 q]] w fun e w' => e = .returned (.bool true) ∧ Below w.heap.size w w' := by
  have dq : decide (q ≤ a) = true := by simp; omega
  go_enter Try.func29, Try.ntmps29
  go_wp2
  go_quiet (fail)
  go_wp2
  go_ret
  refine ⟨ret_bool (by simp [dq]), ?_⟩
  repeat (first | exact Below.refl _ _ | refine Below.drew ?_ | refine below_drewN ?_ _ | refine Below.alloc ?_ (by first | (simp; done) | (simp; omega)) _ | refine Below.setCell ?_ (by first | (simp; done) | (simp; omega)) _)
set_option maxHeartbeats 1000000 in
theorem spec_has_0true (a b c q : Int) (w : World) (h : vvB a b c = true) (h' : dotB 0 q = true) (hq : q ≤ a) :
    Calls Try.prog 17 #[.agg #[.int .i64 a, .int .i64 b, .int .i64 c], .agg #[.int .i64 0, .int .i64 q]] w fun e w' => e = .returned (.tuple #[.bool true, .int .i64 0]) ∧ Below w.heap.size w w' := by
  go_enter Try.func17, Try.ntmps17
  go_wp2_with fail
  refine (spec_vv _ _ _ _).mono ?_
  rintro e w1 ⟨rfl, hb⟩
  have hS1 := vh_keep hb vh_start0
  clear hb
  obtain ⟨_c0, _c1, _c2, _c3, _c4, _hB, _hz⟩ := id hS1
  go_wp2_with fail
  refine (spec_dot _ _ _).mono ?_
  rintro e w2 ⟨rfl, hb⟩
  have hS2 := vh_keep hb hS1
  clear hb
  obtain ⟨_c0, _c1, _c2, _c3, _c4, _hB, _hz⟩ := id hS2
  go_wp2_with fail
  refine (l01has_0true _ _ _ _ _ hq).mono ?_
  rintro e w3 ⟨rfl, hb⟩
  have hS3 := vh_keep hb hS2
  clear hb
  obtain ⟨_c0, _c1, _c2, _c3, _c4, _hB, _hz⟩ := id hS3
  go_wp2_with fail
  go_ret2
  refine ⟨rfl, ?_⟩
  repeat (first | exact _hB | exact Below.refl _ _ | refine Below.drew ?_ | refine below_drewN ?_ _ | refine Below.alloc ?_ (by first | (simp; done) | (simp; omega)) _ | refine Below.setCell ?_ (by first | (simp; done) | (simp; omega)) _)
set_option maxHeartbeats 1000000 in
theorem impl_has_0true (a b c q : Int) (w : World) (h : vvB a b c = true) (h' : dotB 0 q = true) (hq : q ≤ a) :
    Calls Try.prog 19 #[.agg #[.int .i64 a, .int .i64 b, .int .i64 c], .agg #[.int .i64 0, .int .i64 q]] w fun e w' => e = .returned (.tuple #[.bool true, .int .i64 0]) ∧ Below w.heap.size w w' := by
  have dq : decide (q ≤ a) = true := by simp; omega
  go_enter Try.func19, Try.ntmps19
  go_wp2_with fail
  refine (impl_vv _ _ _ _).mono ?_
  rintro e w1 ⟨rfl, hb⟩
  have hS1 := vh_keep hb vh_start0
  clear hb
  obtain ⟨_c0, _c1, _c2, _c3, _c4, _hB, _hz⟩ := id hS1
  go_wp2_with fail
  refine (impl_dot _ _ _).mono ?_
  rintro e w2 ⟨rfl, hb⟩
  have hS2 := vh_keep hb hS1
  clear hb
  obtain ⟨_c0, _c1, _c2, _c3, _c4, _hB, _hz⟩ := id hS2
  go_wp2_with fail
  go_quiet (fail)
  go_wp2_with fail
  go_ret2
  refine ⟨ret_bint (by simp [dq]) rfl, ?_⟩
  repeat (first | exact _hB | exact Below.refl _ _ | refine Below.drew ?_ | refine below_drewN ?_ _ | refine Below.alloc ?_ (by first | (simp; done) | (simp; omega)) _ | refine Below.setCell ?_ (by first | (simp; done) | (simp; omega)) _)


set_option maxHeartbeats 1000000 in
theorem l01has_0false (a b c q : Int) (w : World) (hq : a < q) :
    Calls Try.prog 29 #[.agg #[.int .i64 a, .int .i64 b, .int .i64 c], .agg #[.int .i64 0, .int .i64 q]] w fun e w' => e = .returned (.bool false) ∧ Below w.heap.size w w' := by
  have dq : decide (q ≤ a) = false := by simp; omega
  go_enter Try.func29, Try.ntmps29
  go_wp2
  go_quiet (fail)
  go_wp2
  go_ret
  refine ⟨ret_bool (by simp [dq]), ?_⟩
  repeat (first | exact Below.refl _ _ | refine Below.drew ?_ | refine below_drewN ?_ _ | refine Below.alloc ?_ (by first | (simp; done) | (simp; omega)) _ | refine Below.setCell ?_ (by first | (simp; done) | (simp; omega)) _)
set_option maxHeartbeats 1000000 in
theorem spec_has_0false (a b c q : Int) (w : World) (h : vvB a b c = true) (h' : dotB 0 q = true) (hq : a < q) :
    Calls Try.prog 17 #[.agg #[.int .i64 a, .int .i64 b, .int .i64 c], .agg #[.int .i64 0, .int .i64 q]] w fun e w' => e = .returned (.tuple #[.bool false, .int .i64 0]) ∧ Below w.heap.size w w' := by
  go_enter Try.func17, Try.ntmps17
  go_wp2_with fail
  refine (spec_vv _ _ _ _).mono ?_
  rintro e w1 ⟨rfl, hb⟩
  have hS1 := vh_keep hb vh_start0
  clear hb
  obtain ⟨_c0, _c1, _c2, _c3, _c4, _hB, _hz⟩ := id hS1
  go_wp2_with fail
  refine (spec_dot _ _ _).mono ?_
  rintro e w2 ⟨rfl, hb⟩
  have hS2 := vh_keep hb hS1
  clear hb
  obtain ⟨_c0, _c1, _c2, _c3, _c4, _hB, _hz⟩ := id hS2
  go_wp2_with fail
  refine (l01has_0false _ _ _ _ _ hq).mono ?_
  rintro e w3 ⟨rfl, hb⟩
  have hS3 := vh_keep hb hS2
  clear hb
  obtain ⟨_c0, _c1, _c2, _c3, _c4, _hB, _hz⟩ := id hS3
  go_wp2_with fail
  go_ret2
  refine ⟨rfl, ?_⟩
  repeat (first | exact _hB | exact Below.refl _ _ | refine Below.drew ?_ | refine below_drewN ?_ _ | refine Below.alloc ?_ (by first | (simp; done) | (simp; omega)) _ | refine Below.setCell ?_ (by first | (simp; done) | (simp; omega)) _)
set_option maxHeartbeats 1000000 in
theorem impl_has_0false (a b c q : Int) (w : World) (h : vvB a b c = true) (h' : dotB 0 q = true) (hq : a < q) :
    Calls Try.prog 19 #[.agg #[.int .i64 a, .int .i64 b, .int .i64 c], .agg #[.int .i64 0, .int .i64 q]] w fun e w' => e = .returned (.tuple #[.bool false, .int .i64 0]) ∧ Below w.heap.size w w' := by
  have dq : decide (q ≤ a) = false := by simp; omega
  go_enter Try.func19, Try.ntmps19
  go_wp2_with fail
  refine (impl_vv _ _ _ _).mono ?_
  rintro e w1 ⟨rfl, hb⟩
  have hS1 := vh_keep hb vh_start0
  clear hb
  obtain ⟨_c0, _c1, _c2, _c3, _c4, _hB, _hz⟩ := id hS1
  go_wp2_with fail
  refine (impl_dot _ _ _).mono ?_
  rintro e w2 ⟨rfl, hb⟩
  have hS2 := vh_keep hb hS1
  clear hb
  obtain ⟨_c0, _c1, _c2, _c3, _c4, _hB, _hz⟩ := id hS2
  go_wp2_with fail
  go_quiet (fail)
  go_wp2_with fail
  go_ret2
  refine ⟨ret_bint (by simp [dq]) rfl, ?_⟩
  repeat (first | exact _hB | exact Below.refl _ _ | refine Below.drew ?_ | refine below_drewN ?_ _ | refine Below.alloc ?_ (by first | (simp; done) | (simp; omega)) _ | refine Below.setCell ?_ (by first | (simp; done) | (simp; omega)) _)


set_option maxHeartbeats 1000000 in
theorem l01add_0lt (a b c q : Int) (w : World) (hq : a < q) :
    Calls Try.prog 31 #[.agg #[.int .i64 a, .int .i64 b, .int .i64 c], .agg #[.int .i64 0, .int .i64 q]] w fun e w' => e = .returned (.agg #[.int .i64 q, .int .i64 b, .int .i64 c]) ∧ Below w.heap.size w w' := by
  go_enter Try.func31, Try.ntmps31
  go_wp2
  go_region
  go_wp2
  refine bodyPost_ret (v := .agg #[.int .i64 q, .int .i64 b, .int .i64 c]) (by simp [results, Try.results31, go_sem]) rfl ⟨rfl, ?_⟩
  repeat (first | exact Below.refl _ _ | refine Below.drew ?_ | refine below_drewN ?_ _ | refine Below.alloc ?_ (by first | (simp; done) | (simp; omega)) _ | refine Below.setCell ?_ (by first | (simp; done) | (simp; omega)) _)
set_option maxHeartbeats 1000000 in
theorem spec_add_0lt (a b c q : Int) (w : World) (h : vvB a b c = true) (h' : dotB 0 q = true) (hq : a < q) :
    Calls Try.prog 20 #[.agg #[.int .i64 a, .int .i64 b, .int .i64 c], .agg #[.int .i64 0, .int .i64 q]] w fun e w' => e = .returned (.tuple #[.agg #[.int .i64 q, .int .i64 b, .int .i64 c], .int .i64 0]) ∧ Below w.heap.size w w' := by
  go_enter Try.func20, Try.ntmps20
  go_wp2_with fail
  refine (spec_vv _ _ _ _).mono ?_
  rintro e w1 ⟨rfl, hb⟩
  have hS1 := vd_keep hb vd_start0
  clear hb
  obtain ⟨_c0, _c1, _c2, _c3, _c4, _c5, _c6, _c7, _c8, _c9, _c10, _c11, _c12, _c13, _hB, _hz⟩ := id hS1
  go_wp2_with fail
  refine (spec_dot _ _ _).mono ?_
  rintro e w2 ⟨rfl, hb⟩
  have hS2 := vd_keep hb hS1
  clear hb
  obtain ⟨_c0, _c1, _c2, _c3, _c4, _c5, _c6, _c7, _c8, _c9, _c10, _c11, _c12, _c13, _hB, _hz⟩ := id hS2
  go_wp2_with fail
  refine (l01add_0lt _ _ _ _ _ hq).mono ?_
  rintro e w3 ⟨rfl, hb⟩
  have hS3 := vd_keep hb hS2
  clear hb
  obtain ⟨_c0, _c1, _c2, _c3, _c4, _c5, _c6, _c7, _c8, _c9, _c10, _c11, _c12, _c13, _hB, _hz⟩ := id hS3
  go_wp2_with fail
  refine bodyPost_ret (v := .tuple #[.agg #[.int .i64 q, .int .i64 b, .int .i64 c], .int .i64 0]) (by simp [results, Try.results20, go_sem, _c0, _c1, _c2, _c5, _c6, _c7, _c8, _c9, _c10, _c11, _c12, _c13]) rfl ⟨rfl, ?_⟩
  repeat (first | exact _hB | exact Below.refl _ _ | refine Below.drew ?_ | refine below_drewN ?_ _ | refine Below.alloc ?_ (by first | (simp; done) | (simp; omega)) _ | refine Below.setCell ?_ (by first | (simp; done) | (simp; omega)) _)
set_option maxHeartbeats 1000000 in
theorem impl_add_0lt (a b c q : Int) (w : World) (h : vvB a b c = true) (h' : dotB 0 q = true) (hq : a < q) :
    Calls Try.prog 21 #[.agg #[.int .i64 a, .int .i64 b, .int .i64 c], .agg #[.int .i64 0, .int .i64 q]] w fun e w' => e = .returned (.tuple #[.agg #[.int .i64 q, .int .i64 b, .int .i64 c], .int .i64 0]) ∧ Below w.heap.size w w' := by
  go_enter Try.func21, Try.ntmps21
  go_wp2_with fail
  refine (impl_vv _ _ _ _).mono ?_
  rintro e w1 ⟨rfl, hb⟩
  have hS1 := vd_keep hb vd_start0
  clear hb
  obtain ⟨_c0, _c1, _c2, _c3, _c4, _c5, _c6, _c7, _c8, _c9, _c10, _c11, _c12, _c13, _hB, _hz⟩ := id hS1
  go_wp2_with fail
  refine (impl_dot _ _ _).mono ?_
  rintro e w2 ⟨rfl, hb⟩
  have hS2 := vd_keep hb hS1
  clear hb
  obtain ⟨_c0, _c1, _c2, _c3, _c4, _c5, _c6, _c7, _c8, _c9, _c10, _c11, _c12, _c13, _hB, _hz⟩ := id hS2
  clear hS1 hS2
  go_wp2_with fail
  go_region
  go_wp2_with fail
  refine bodyPost_ret (v := .tuple #[.agg #[.int .i64 q, .int .i64 b, .int .i64 c], .int .i64 0]) (by simp [results, Try.results21, go_sem, _c0, _c1, _c2, _c5, _c6, _c7, _c8, _c9, _c10, _c11, _c12, _c13]) rfl ⟨rfl, ?_⟩
  exact ((_hB.setCell (by simp) _).setCell (by simp; omega) _ |>.setCell (by simp; omega) _ |>.setCell (by simp; omega) _).drew


set_option maxHeartbeats 1000000 in
theorem l01add_0ge (a b c q : Int) (w : World) (hq : q ≤ a) :
    Calls Try.prog 31 #[.agg #[.int .i64 a, .int .i64 b, .int .i64 c], .agg #[.int .i64 0, .int .i64 q]] w fun e w' => e = .returned (.agg #[.int .i64 a, .int .i64 b, .int .i64 c]) ∧ Below w.heap.size w w' := by
  go_enter Try.func31, Try.ntmps31
  go_wp2
  go_region
  go_wp2
  refine bodyPost_ret (v := .agg #[.int .i64 a, .int .i64 b, .int .i64 c]) (by simp [results, Try.results31, go_sem]) rfl ⟨rfl, ?_⟩
  repeat (first | exact Below.refl _ _ | refine Below.drew ?_ | refine below_drewN ?_ _ | refine Below.alloc ?_ (by first | (simp; done) | (simp; omega)) _ | refine Below.setCell ?_ (by first | (simp; done) | (simp; omega)) _)
set_option maxHeartbeats 1000000 in
theorem spec_add_0ge (a b c q : Int) (w : World) (h : vvB a b c = true) (h' : dotB 0 q = true) (hq : q ≤ a) :
    Calls Try.prog 20 #[.agg #[.int .i64 a, .int .i64 b, .int .i64 c], .agg #[.int .i64 0, .int .i64 q]] w fun e w' => e = .returned (.tuple #[.agg #[.int .i64 a, .int .i64 b, .int .i64 c], .int .i64 0]) ∧ Below w.heap.size w w' := by
  go_enter Try.func20, Try.ntmps20
  go_wp2_with fail
  refine (spec_vv _ _ _ _).mono ?_
  rintro e w1 ⟨rfl, hb⟩
  have hS1 := vd_keep hb vd_start0
  clear hb
  obtain ⟨_c0, _c1, _c2, _c3, _c4, _c5, _c6, _c7, _c8, _c9, _c10, _c11, _c12, _c13, _hB, _hz⟩ := id hS1
  go_wp2_with fail
  refine (spec_dot _ _ _).mono ?_
  rintro e w2 ⟨rfl, hb⟩
  have hS2 := vd_keep hb hS1
  clear hb
  obtain ⟨_c0, _c1, _c2, _c3, _c4, _c5, _c6, _c7, _c8, _c9, _c10, _c11, _c12, _c13, _hB, _hz⟩ := id hS2
  go_wp2_with fail
  refine (l01add_0ge _ _ _ _ _ hq).mono ?_
  rintro e w3 ⟨rfl, hb⟩
  have hS3 := vd_keep hb hS2
  clear hb
  obtain ⟨_c0, _c1, _c2, _c3, _c4, _c5, _c6, _c7, _c8, _c9, _c10, _c11, _c12, _c13, _hB, _hz⟩ := id hS3
  go_wp2_with fail
  refine bodyPost_ret (v := .tuple #[.agg #[.int .i64 a, .int .i64 b, .int .i64 c], .int .i64 0]) (by simp [results, Try.results20, go_sem, _c0, _c1, _c2, _c5, _c6, _c7, _c8, _c9, _c10, _c11, _c12, _c13]) rfl ⟨rfl, ?_⟩
  repeat (first | exact _hB | exact Below.refl _ _ | refine Below.drew ?_ | refine below_drewN ?_ _ | refine Below.alloc ?_ (by first | (simp; done) | (simp; omega)) _ | refine Below.setCell ?_ (by first | (simp; done) | (simp; omega)) _)
set_option maxHeartbeats 1000000 in
theorem impl_add_0ge (a b c q : Int) (w : World) (h : vvB a b c = true) (h' : dotB 0 q = true) (hq : q ≤ a) :
    Calls Try.prog 21 #[.agg #[.int .i64 a, .int .i64 b, .int .i64 c], .agg #[.int .i64 0, .int .i64 q]] w fun e w' => e = .returned (.tuple #[.agg #[.int .i64 a, .int .i64 b, .int .i64 c], .int .i64 0]) ∧ Below w.heap.size w w' := by
  go_enter Try.func21, Try.ntmps21
  go_wp2_with fail
  refine (impl_vv _ _ _ _).mono ?_
  rintro e w1 ⟨rfl, hb⟩
  have hS1 := vd_keep hb vd_start0
  clear hb
  obtain ⟨_c0, _c1, _c2, _c3, _c4, _c5, _c6, _c7, _c8, _c9, _c10, _c11, _c12, _c13, _hB, _hz⟩ := id hS1
  go_wp2_with fail
  refine (impl_dot _ _ _).mono ?_
  rintro e w2 ⟨rfl, hb⟩
  have hS2 := vd_keep hb hS1
  clear hb
  obtain ⟨_c0, _c1, _c2, _c3, _c4, _c5, _c6, _c7, _c8, _c9, _c10, _c11, _c12, _c13, _hB, _hz⟩ := id hS2
  clear hS1 hS2
  go_wp2_with fail
  go_region
  go_wp2_with fail
  refine bodyPost_ret (v := .tuple #[.agg #[.int .i64 a, .int .i64 b, .int .i64 c], .int .i64 0]) (by simp [results, Try.results21, go_sem, _c0, _c1, _c2, _c5, _c6, _c7, _c8, _c9, _c10, _c11, _c12, _c13]) rfl ⟨rfl, ?_⟩
  exact ((_hB.setCell (by simp) _).setCell (by simp; omega) _ |>.setCell (by simp; omega) _ |>.setCell (by simp; omega) _).drew


set_option maxHeartbeats 1000000 in
theorem l01has_1true (a b c q : Int) (w : World) (hq : q ≤ b) :
    Calls Try.prog 29 #[.agg #[.int .i64 a, .int .i64 b, .int .i64 c], .agg #[.int .i64 1, .int .i64 q]] w fun e w' => e = .returned (.bool true) ∧ Below w.heap.size w w' := by
  have dq : decide (q ≤ b) = true := by simp; omega
  go_enter Try.func29, Try.ntmps29
  go_wp2
  go_quiet (fail)
  go_wp2
  go_ret
  refine ⟨ret_bool (by simp [dq]), ?_⟩
  repeat (first | exact Below.refl _ _ | refine Below.drew ?_ | refine below_drewN ?_ _ | refine Below.alloc ?_ (by first | (simp; done) | (simp; omega)) _ | refine Below.setCell ?_ (by first | (simp; done) | (simp; omega)) _)
set_option maxHeartbeats 1000000 in
theorem spec_has_1true (a b c q : Int) (w : World) (h : vvB a b c = true) (h' : dotB 1 q = true) (hq : q ≤ b) :
    Calls Try.prog 17 #[.agg #[.int .i64 a, .int .i64 b, .int .i64 c], .agg #[.int .i64 1, .int .i64 q]] w fun e w' => e = .returned (.tuple #[.bool true, .int .i64 0]) ∧ Below w.heap.size w w' := by
  go_enter Try.func17, Try.ntmps17
  go_wp2_with fail
  refine (spec_vv _ _ _ _).mono ?_
  rintro e w1 ⟨rfl, hb⟩
  have hS1 := vh_keep hb vh_start0
  clear hb
  obtain ⟨_c0, _c1, _c2, _c3, _c4, _hB, _hz⟩ := id hS1
  go_wp2_with fail
  refine (spec_dot _ _ _).mono ?_
  rintro e w2 ⟨rfl, hb⟩
  have hS2 := vh_keep hb hS1
  clear hb
  obtain ⟨_c0, _c1, _c2, _c3, _c4, _hB, _hz⟩ := id hS2
  go_wp2_with fail
  refine (l01has_1true _ _ _ _ _ hq).mono ?_
  rintro e w3 ⟨rfl, hb⟩
  have hS3 := vh_keep hb hS2
  clear hb
  obtain ⟨_c0, _c1, _c2, _c3, _c4, _hB, _hz⟩ := id hS3
  go_wp2_with fail
  go_ret2
  refine ⟨rfl, ?_⟩
  repeat (first | exact _hB | exact Below.refl _ _ | refine Below.drew ?_ | refine below_drewN ?_ _ | refine Below.alloc ?_ (by first | (simp; done) | (simp; omega)) _ | refine Below.setCell ?_ (by first | (simp; done) | (simp; omega)) _)
set_option maxHeartbeats 1000000 in
theorem impl_has_1true (a b c q : Int) (w : World) (h : vvB a b c = true) (h' : dotB 1 q = true) (hq : q ≤ b) :
    Calls Try.prog 19 #[.agg #[.int .i64 a, .int .i64 b, .int .i64 c], .agg #[.int .i64 1, .int .i64 q]] w fun e w' => e = .returned (.tuple #[.bool true, .int .i64 0]) ∧ Below w.heap.size w w' := by
  have dq : decide (q ≤ b) = true := by simp; omega
  go_enter Try.func19, Try.ntmps19
  go_wp2_with fail
  refine (impl_vv _ _ _ _).mono ?_
  rintro e w1 ⟨rfl, hb⟩
  have hS1 := vh_keep hb vh_start0
  clear hb
  obtain ⟨_c0, _c1, _c2, _c3, _c4, _hB, _hz⟩ := id hS1
  go_wp2_with fail
  refine (impl_dot _ _ _).mono ?_
  rintro e w2 ⟨rfl, hb⟩
  have hS2 := vh_keep hb hS1
  clear hb
  obtain ⟨_c0, _c1, _c2, _c3, _c4, _hB, _hz⟩ := id hS2
  go_wp2_with fail
  go_quiet (fail)
  go_wp2_with fail
  go_ret2
  refine ⟨ret_bint (by simp [dq]) rfl, ?_⟩
  repeat (first | exact _hB | exact Below.refl _ _ | refine Below.drew ?_ | refine below_drewN ?_ _ | refine Below.alloc ?_ (by first | (simp; done) | (simp; omega)) _ | refine Below.setCell ?_ (by first | (simp; done) | (simp; omega)) _)


set_option maxHeartbeats 1000000 in
theorem l01has_1false (a b c q : Int) (w : World) (hq : b < q) :
    Calls Try.prog 29 #[.agg #[.int .i64 a, .int .i64 b, .int .i64 c], .agg #[.int .i64 1, .int .i64 q]] w fun e w' => e = .returned (.bool false) ∧ Below w.heap.size w w' := by
  have dq : decide (q ≤ b) = false := by simp; omega
  go_enter Try.func29, Try.ntmps29
  go_wp2
  go_quiet (fail)
  go_wp2
  go_ret
  refine ⟨ret_bool (by simp [dq]), ?_⟩
  repeat (first | exact Below.refl _ _ | refine Below.drew ?_ | refine below_drewN ?_ _ | refine Below.alloc ?_ (by first | (simp; done) | (simp; omega)) _ | refine Below.setCell ?_ (by first | (simp; done) | (simp; omega)) _)
set_option maxHeartbeats 1000000 in
theorem spec_has_1false (a b c q : Int) (w : World) (h : vvB a b c = true) (h' : dotB 1 q = true) (hq : b < q) :
    Calls Try.prog 17 #[.agg #[.int .i64 a, .int .i64 b, .int .i64 c], .agg #[.int .i64 1, .int .i64 q]] w fun e w' => e = .returned (.tuple #[.bool false, .int .i64 0]) ∧ Below w.heap.size w w' := by
  go_enter Try.func17, Try.ntmps17
  go_wp2_with fail
  refine (spec_vv _ _ _ _).mono ?_
  rintro e w1 ⟨rfl, hb⟩
  have hS1 := vh_keep hb vh_start0
  clear hb
  obtain ⟨_c0, _c1, _c2, _c3, _c4, _hB, _hz⟩ := id hS1
  go_wp2_with fail
  refine (spec_dot _ _ _).mono ?_
  rintro e w2 ⟨rfl, hb⟩
  have hS2 := vh_keep hb hS1
  clear hb
  obtain ⟨_c0, _c1, _c2, _c3, _c4, _hB, _hz⟩ := id hS2
  go_wp2_with fail
  refine (l01has_1false _ _ _ _ _ hq).mono ?_
  rintro e w3 ⟨rfl, hb⟩
  have hS3 := vh_keep hb hS2
  clear hb
  obtain ⟨_c0, _c1, _c2, _c3, _c4, _hB, _hz⟩ := id hS3
  go_wp2_with fail
  go_ret2
  refine ⟨rfl, ?_⟩
  repeat (first | exact _hB | exact Below.refl _ _ | refine Below.drew ?_ | refine below_drewN ?_ _ | refine Below.alloc ?_ (by first | (simp; done) | (simp; omega)) _ | refine Below.setCell ?_ (by first | (simp; done) | (simp; omega)) _)
set_option maxHeartbeats 1000000 in
theorem impl_has_1false (a b c q : Int) (w : World) (h : vvB a b c = true) (h' : dotB 1 q = true) (hq : b < q) :
    Calls Try.prog 19 #[.agg #[.int .i64 a, .int .i64 b, .int .i64 c], .agg #[.int .i64 1, .int .i64 q]] w fun e w' => e = .returned (.tuple #[.bool false, .int .i64 0]) ∧ Below w.heap.size w w' := by
  have dq : decide (q ≤ b) = false := by simp; omega
  go_enter Try.func19, Try.ntmps19
  go_wp2_with fail
  refine (impl_vv _ _ _ _).mono ?_
  rintro e w1 ⟨rfl, hb⟩
  have hS1 := vh_keep hb vh_start0
  clear hb
  obtain ⟨_c0, _c1, _c2, _c3, _c4, _hB, _hz⟩ := id hS1
  go_wp2_with fail
  refine (impl_dot _ _ _).mono ?_
  rintro e w2 ⟨rfl, hb⟩
  have hS2 := vh_keep hb hS1
  clear hb
  obtain ⟨_c0, _c1, _c2, _c3, _c4, _hB, _hz⟩ := id hS2
  go_wp2_with fail
  go_quiet (fail)
  go_wp2_with fail
  go_ret2
  refine ⟨ret_bint (by simp [dq]) rfl, ?_⟩
  repeat (first | exact _hB | exact Below.refl _ _ | refine Below.drew ?_ | refine below_drewN ?_ _ | refine Below.alloc ?_ (by first | (simp; done) | (simp; omega)) _ | refine Below.setCell ?_ (by first | (simp; done) | (simp; omega)) _)


set_option maxHeartbeats 1000000 in
theorem l01add_1lt (a b c q : Int) (w : World) (hq : b < q) :
    Calls Try.prog 31 #[.agg #[.int .i64 a, .int .i64 b, .int .i64 c], .agg #[.int .i64 1, .int .i64 q]] w fun e w' => e = .returned (.agg #[.int .i64 a, .int .i64 q, .int .i64 c]) ∧ Below w.heap.size w w' := by
  go_enter Try.func31, Try.ntmps31
  go_wp2
  go_region
  go_wp2
  refine bodyPost_ret (v := .agg #[.int .i64 a, .int .i64 q, .int .i64 c]) (by simp [results, Try.results31, go_sem]) rfl ⟨rfl, ?_⟩
  repeat (first | exact Below.refl _ _ | refine Below.drew ?_ | refine below_drewN ?_ _ | refine Below.alloc ?_ (by first | (simp; done) | (simp; omega)) _ | refine Below.setCell ?_ (by first | (simp; done) | (simp; omega)) _)
set_option maxHeartbeats 1000000 in
theorem spec_add_1lt (a b c q : Int) (w : World) (h : vvB a b c = true) (h' : dotB 1 q = true) (hq : b < q) :
    Calls Try.prog 20 #[.agg #[.int .i64 a, .int .i64 b, .int .i64 c], .agg #[.int .i64 1, .int .i64 q]] w fun e w' => e = .returned (.tuple #[.agg #[.int .i64 a, .int .i64 q, .int .i64 c], .int .i64 0]) ∧ Below w.heap.size w w' := by
  go_enter Try.func20, Try.ntmps20
  go_wp2_with fail
  refine (spec_vv _ _ _ _).mono ?_
  rintro e w1 ⟨rfl, hb⟩
  have hS1 := vd_keep hb vd_start0
  clear hb
  obtain ⟨_c0, _c1, _c2, _c3, _c4, _c5, _c6, _c7, _c8, _c9, _c10, _c11, _c12, _c13, _hB, _hz⟩ := id hS1
  go_wp2_with fail
  refine (spec_dot _ _ _).mono ?_
  rintro e w2 ⟨rfl, hb⟩
  have hS2 := vd_keep hb hS1
  clear hb
  obtain ⟨_c0, _c1, _c2, _c3, _c4, _c5, _c6, _c7, _c8, _c9, _c10, _c11, _c12, _c13, _hB, _hz⟩ := id hS2
  go_wp2_with fail
  refine (l01add_1lt _ _ _ _ _ hq).mono ?_
  rintro e w3 ⟨rfl, hb⟩
  have hS3 := vd_keep hb hS2
  clear hb
  obtain ⟨_c0, _c1, _c2, _c3, _c4, _c5, _c6, _c7, _c8, _c9, _c10, _c11, _c12, _c13, _hB, _hz⟩ := id hS3
  go_wp2_with fail
  refine bodyPost_ret (v := .tuple #[.agg #[.int .i64 a, .int .i64 q, .int .i64 c], .int .i64 0]) (by simp [results, Try.results20, go_sem, _c0, _c1, _c2, _c5, _c6, _c7, _c8, _c9, _c10, _c11, _c12, _c13]) rfl ⟨rfl, ?_⟩
  repeat (first | exact _hB | exact Below.refl _ _ | refine Below.drew ?_ | refine below_drewN ?_ _ | refine Below.alloc ?_ (by first | (simp; done) | (simp; omega)) _ | refine Below.setCell ?_ (by first | (simp; done) | (simp; omega)) _)
set_option maxHeartbeats 1000000 in
theorem impl_add_1lt (a b c q : Int) (w : World) (h : vvB a b c = true) (h' : dotB 1 q = true) (hq : b < q) :
    Calls Try.prog 21 #[.agg #[.int .i64 a, .int .i64 b, .int .i64 c], .agg #[.int .i64 1, .int .i64 q]] w fun e w' => e = .returned (.tuple #[.agg #[.int .i64 a, .int .i64 q, .int .i64 c], .int .i64 0]) ∧ Below w.heap.size w w' := by
  go_enter Try.func21, Try.ntmps21
  go_wp2_with fail
  refine (impl_vv _ _ _ _).mono ?_
  rintro e w1 ⟨rfl, hb⟩
  have hS1 := vd_keep hb vd_start0
  clear hb
  obtain ⟨_c0, _c1, _c2, _c3, _c4, _c5, _c6, _c7, _c8, _c9, _c10, _c11, _c12, _c13, _hB, _hz⟩ := id hS1
  go_wp2_with fail
  refine (impl_dot _ _ _).mono ?_
  rintro e w2 ⟨rfl, hb⟩
  have hS2 := vd_keep hb hS1
  clear hb
  obtain ⟨_c0, _c1, _c2, _c3, _c4, _c5, _c6, _c7, _c8, _c9, _c10, _c11, _c12, _c13, _hB, _hz⟩ := id hS2
  clear hS1 hS2
  go_wp2_with fail
  go_region
  go_wp2_with fail
  refine bodyPost_ret (v := .tuple #[.agg #[.int .i64 a, .int .i64 q, .int .i64 c], .int .i64 0]) (by simp [results, Try.results21, go_sem, _c0, _c1, _c2, _c5, _c6, _c7, _c8, _c9, _c10, _c11, _c12, _c13]) rfl ⟨rfl, ?_⟩
  exact ((_hB.setCell (by simp) _).setCell (by simp; omega) _ |>.setCell (by simp; omega) _ |>.setCell (by simp; omega) _).drew


set_option maxHeartbeats 1000000 in
theorem l01add_1ge (a b c q : Int) (w : World) (hq : q ≤ b) :
    Calls Try.prog 31 #[.agg #[.int .i64 a, .int .i64 b, .int .i64 c], .agg #[.int .i64 1, .int .i64 q]] w fun e w' => e = .returned (.agg #[.int .i64 a, .int .i64 b, .int .i64 c]) ∧ Below w.heap.size w w' := by
  go_enter Try.func31, Try.ntmps31
  go_wp2
  go_region
  go_wp2
  refine bodyPost_ret (v := .agg #[.int .i64 a, .int .i64 b, .int .i64 c]) (by simp [results, Try.results31, go_sem]) rfl ⟨rfl, ?_⟩
  repeat (first | exact Below.refl _ _ | refine Below.drew ?_ | refine below_drewN ?_ _ | refine Below.alloc ?_ (by first | (simp; done) | (simp; omega)) _ | refine Below.setCell ?_ (by first | (simp; done) | (simp; omega)) _)
set_option maxHeartbeats 1000000 in
theorem spec_add_1ge (a b c q : Int) (w : World) (h : vvB a b c = true) (h' : dotB 1 q = true) (hq : q ≤ b) :
    Calls Try.prog 20 #[.agg #[.int .i64 a, .int .i64 b, .int .i64 c], .agg #[.int .i64 1, .int .i64 q]] w fun e w' => e = .returned (.tuple #[.agg #[.int .i64 a, .int .i64 b, .int .i64 c], .int .i64 0]) ∧ Below w.heap.size w w' := by
  go_enter Try.func20, Try.ntmps20
  go_wp2_with fail
  refine (spec_vv _ _ _ _).mono ?_
  rintro e w1 ⟨rfl, hb⟩
  have hS1 := vd_keep hb vd_start0
  clear hb
  obtain ⟨_c0, _c1, _c2, _c3, _c4, _c5, _c6, _c7, _c8, _c9, _c10, _c11, _c12, _c13, _hB, _hz⟩ := id hS1
  go_wp2_with fail
  refine (spec_dot _ _ _).mono ?_
  rintro e w2 ⟨rfl, hb⟩
  have hS2 := vd_keep hb hS1
  clear hb
  obtain ⟨_c0, _c1, _c2, _c3, _c4, _c5, _c6, _c7, _c8, _c9, _c10, _c11, _c12, _c13, _hB, _hz⟩ := id hS2
  go_wp2_with fail
  refine (l01add_1ge _ _ _ _ _ hq).mono ?_
  rintro e w3 ⟨rfl, hb⟩
  have hS3 := vd_keep hb hS2
  clear hb
  obtain ⟨_c0, _c1, _c2, _c3, _c4, _c5, _c6, _c7, _c8, _c9, _c10, _c11, _c12, _c13, _hB, _hz⟩ := id hS3
  go_wp2_with fail
  refine bodyPost_ret (v := .tuple #[.agg #[.int .i64 a, .int .i64 b, .int .i64 c], .int .i64 0]) (by simp [results, Try.results20, go_sem, _c0, _c1, _c2, _c5, _c6, _c7, _c8, _c9, _c10, _c11, _c12, _c13]) rfl ⟨rfl, ?_⟩
  repeat (first | exact _hB | exact Below.refl _ _ | refine Below.drew ?_ | refine below_drewN ?_ _ | refine Below.alloc ?_ (by first | (simp; done) | (simp; omega)) _ | refine Below.setCell ?_ (by first | (simp; done) | (simp; omega)) _)
set_option maxHeartbeats 1000000 in
theorem impl_add_1ge (a b c q : Int) (w : World) (h : vvB a b c = true) (h' : dotB 1 q = true) (hq : q ≤ b) :
    Calls Try.prog 21 #[.agg #[.int .i64 a, .int .i64 b, .int .i64 c], .agg #[.int .i64 1, .int .i64 q]] w fun e w' => e = .returned (.tuple #[.agg #[.int .i64 a, .int .i64 b, .int .i64 c], .int .i64 0]) ∧ Below w.heap.size w w' := by
  go_enter Try.func21, Try.ntmps21
  go_wp2_with fail
  refine (impl_vv _ _ _ _).mono ?_
  rintro e w1 ⟨rfl, hb⟩
  have hS1 := vd_keep hb vd_start0
  clear hb
  obtain ⟨_c0, _c1, _c2, _c3, _c4, _c5, _c6, _c7, _c8, _c9, _c10, _c11, _c12, _c13, _hB, _hz⟩ := id hS1
  go_wp2_with fail
  refine (impl_dot _ _ _).mono ?_
  rintro e w2 ⟨rfl, hb⟩
  have hS2 := vd_keep hb hS1
  clear hb
  obtain ⟨_c0, _c1, _c2, _c3, _c4, _c5, _c6, _c7, _c8, _c9, _c10, _c11, _c12, _c13, _hB, _hz⟩ := id hS2
  clear hS1 hS2
  go_wp2_with fail
  go_region
  go_wp2_with fail
  refine bodyPost_ret (v := .tuple #[.agg #[.int .i64 a, .int .i64 b, .int .i64 c], .int .i64 0]) (by simp [results, Try.results21, go_sem, _c0, _c1, _c2, _c5, _c6, _c7, _c8, _c9, _c10, _c11, _c12, _c13]) rfl ⟨rfl, ?_⟩
  exact ((_hB.setCell (by simp) _).setCell (by simp; omega) _ |>.setCell (by simp; omega) _ |>.setCell (by simp; omega) _).drew


set_option maxHeartbeats 1000000 in
theorem l01has_2true (a b c q : Int) (w : World) (hq : q ≤ c) :
    Calls Try.prog 29 #[.agg #[.int .i64 a, .int .i64 b, .int .i64 c], .agg #[.int .i64 2, .int .i64 q]] w fun e w' => e = .returned (.bool true) ∧ Below w.heap.size w w' := by
  have dq : decide (q ≤ c) = true := by simp; omega
  go_enter Try.func29, Try.ntmps29
  go_wp2
  go_quiet (fail)
  go_wp2
  go_ret
  refine ⟨ret_bool (by simp [dq]), ?_⟩
  repeat (first | exact Below.refl _ _ | refine Below.drew ?_ | refine below_drewN ?_ _ | refine Below.alloc ?_ (by first | (simp; done) | (simp; omega)) _ | refine Below.setCell ?_ (by first | (simp; done) | (simp; omega)) _)
set_option maxHeartbeats 1000000 in
theorem spec_has_2true (a b c q : Int) (w : World) (h : vvB a b c = true) (h' : dotB 2 q = true) (hq : q ≤ c) :
    Calls Try.prog 17 #[.agg #[.int .i64 a, .int .i64 b, .int .i64 c], .agg #[.int .i64 2, .int .i64 q]] w fun e w' => e = .returned (.tuple #[.bool true, .int .i64 0]) ∧ Below w.heap.size w w' := by
  go_enter Try.func17, Try.ntmps17
  go_wp2_with fail
  refine (spec_vv _ _ _ _).mono ?_
  rintro e w1 ⟨rfl, hb⟩
  have hS1 := vh_keep hb vh_start0
  clear hb
  obtain ⟨_c0, _c1, _c2, _c3, _c4, _hB, _hz⟩ := id hS1
  go_wp2_with fail
  refine (spec_dot _ _ _).mono ?_
  rintro e w2 ⟨rfl, hb⟩
  have hS2 := vh_keep hb hS1
  clear hb
  obtain ⟨_c0, _c1, _c2, _c3, _c4, _hB, _hz⟩ := id hS2
  go_wp2_with fail
  refine (l01has_2true _ _ _ _ _ hq).mono ?_
  rintro e w3 ⟨rfl, hb⟩
  have hS3 := vh_keep hb hS2
  clear hb
  obtain ⟨_c0, _c1, _c2, _c3, _c4, _hB, _hz⟩ := id hS3
  go_wp2_with fail
  go_ret2
  refine ⟨rfl, ?_⟩
  repeat (first | exact _hB | exact Below.refl _ _ | refine Below.drew ?_ | refine below_drewN ?_ _ | refine Below.alloc ?_ (by first | (simp; done) | (simp; omega)) _ | refine Below.setCell ?_ (by first | (simp; done) | (simp; omega)) _)
set_option maxHeartbeats 1000000 in
theorem impl_has_2true (a b c q : Int) (w : World) (h : vvB a b c = true) (h' : dotB 2 q = true) (hq : q ≤ c) :
    Calls Try.prog 19 #[.agg #[.int .i64 a, .int .i64 b, .int .i64 c], .agg #[.int .i64 2, .int .i64 q]] w fun e w' => e = .returned (.tuple #[.bool true, .int .i64 0]) ∧ Below w.heap.size w w' := by
  have dq : decide (q ≤ c) = true := by simp; omega
  go_enter Try.func19, Try.ntmps19
  go_wp2_with fail
  refine (impl_vv _ _ _ _).mono ?_
  rintro e w1 ⟨rfl, hb⟩
  have hS1 := vh_keep hb vh_start0
  clear hb
  obtain ⟨_c0, _c1, _c2, _c3, _c4, _hB, _hz⟩ := id hS1
  go_wp2_with fail
  refine (impl_dot _ _ _).mono ?_
  rintro e w2 ⟨rfl, hb⟩
  have hS2 := vh_keep hb hS1
  clear hb
  obtain ⟨_c0, _c1, _c2, _c3, _c4, _hB, _hz⟩ := id hS2
  go_wp2_with fail
  go_quiet (fail)
  go_wp2_with fail
  go_ret2
  refine ⟨ret_bint (by simp [dq]) rfl, ?_⟩
  repeat (first | exact _hB | exact Below.refl _ _ | refine Below.drew ?_ | refine below_drewN ?_ _ | refine Below.alloc ?_ (by first | (simp; done) | (simp; omega)) _ | refine Below.setCell ?_ (by first | (simp; done) | (simp; omega)) _)


set_option maxHeartbeats 1000000 in
theorem l01has_2false (a b c q : Int) (w : World) (hq : c < q) :
    Calls Try.prog 29 #[.agg #[.int .i64 a, .int .i64 b, .int .i64 c], .agg #[.int .i64 2, .int .i64 q]] w fun e w' => e = .returned (.bool false) ∧ Below w.heap.size w w' := by
  have dq : decide (q ≤ c) = false := by simp; omega
  go_enter Try.func29, Try.ntmps29
  go_wp2
  go_quiet (fail)
  go_wp2
  go_ret
  refine ⟨ret_bool (by simp [dq]), ?_⟩
  repeat (first | exact Below.refl _ _ | refine Below.drew ?_ | refine below_drewN ?_ _ | refine Below.alloc ?_ (by first | (simp; done) | (simp; omega)) _ | refine Below.setCell ?_ (by first | (simp; done) | (simp; omega)) _)
set_option maxHeartbeats 1000000 in
theorem spec_has_2false (a b c q : Int) (w : World) (h : vvB a b c = true) (h' : dotB 2 q = true) (hq : c < q) :
    Calls Try.prog 17 #[.agg #[.int .i64 a, .int .i64 b, .int .i64 c], .agg #[.int .i64 2, .int .i64 q]] w fun e w' => e = .returned (.tuple #[.bool false, .int .i64 0]) ∧ Below w.heap.size w w' := by
  go_enter Try.func17, Try.ntmps17
  go_wp2_with fail
  refine (spec_vv _ _ _ _).mono ?_
  rintro e w1 ⟨rfl, hb⟩
  have hS1 := vh_keep hb vh_start0
  clear hb
  obtain ⟨_c0, _c1, _c2, _c3, _c4, _hB, _hz⟩ := id hS1
  go_wp2_with fail
  refine (spec_dot _ _ _).mono ?_
  rintro e w2 ⟨rfl, hb⟩
  have hS2 := vh_keep hb hS1
  clear hb
  obtain ⟨_c0, _c1, _c2, _c3, _c4, _hB, _hz⟩ := id hS2
  go_wp2_with fail
  refine (l01has_2false _ _ _ _ _ hq).mono ?_
  rintro e w3 ⟨rfl, hb⟩
  have hS3 := vh_keep hb hS2
  clear hb
  obtain ⟨_c0, _c1, _c2, _c3, _c4, _hB, _hz⟩ := id hS3
  go_wp2_with fail
  go_ret2
  refine ⟨rfl, ?_⟩
  repeat (first | exact _hB | exact Below.refl _ _ | refine Below.drew ?_ | refine below_drewN ?_ _ | refine Below.alloc ?_ (by first | (simp; done) | (simp; omega)) _ | refine Below.setCell ?_ (by first | (simp; done) | (simp; omega)) _)
set_option maxHeartbeats 1000000 in
theorem impl_has_2false (a b c q : Int) (w : World) (h : vvB a b c = true) (h' : dotB 2 q = true) (hq : c < q) :
    Calls Try.prog 19 #[.agg #[.int .i64 a, .int .i64 b, .int .i64 c], .agg #[.int .i64 2, .int .i64 q]] w fun e w' => e = .returned (.tuple #[.bool false, .int .i64 0]) ∧ Below w.heap.size w w' := by
  have dq : decide (q ≤ c) = false := by simp; omega
  go_enter Try.func19, Try.ntmps19
  go_wp2_with fail
  refine (impl_vv _ _ _ _).mono ?_
  rintro e w1 ⟨rfl, hb⟩
  have hS1 := vh_keep hb vh_start0
  clear hb
  obtain ⟨_c0, _c1, _c2, _c3, _c4, _hB, _hz⟩ := id hS1
  go_wp2_with fail
  refine (impl_dot _ _ _).mono ?_
  rintro e w2 ⟨rfl, hb⟩
  have hS2 := vh_keep hb hS1
  clear hb
  obtain ⟨_c0, _c1, _c2, _c3, _c4, _hB, _hz⟩ := id hS2
  go_wp2_with fail
  go_quiet (fail)
  go_wp2_with fail
  go_ret2
  refine ⟨ret_bint (by simp [dq]) rfl, ?_⟩
  repeat (first | exact _hB | exact Below.refl _ _ | refine Below.drew ?_ | refine below_drewN ?_ _ | refine Below.alloc ?_ (by first | (simp; done) | (simp; omega)) _ | refine Below.setCell ?_ (by first | (simp; done) | (simp; omega)) _)


set_option maxHeartbeats 1000000 in
theorem l01add_2lt (a b c q : Int) (w : World) (hq : c < q) :
    Calls Try.prog 31 #[.agg #[.int .i64 a, .int .i64 b, .int .i64 c], .agg #[.int .i64 2, .int .i64 q]] w fun e w' => e = .returned (.agg #[.int .i64 a, .int .i64 b, .int .i64 q]) ∧ Below w.heap.size w w' := by
  go_enter Try.func31, Try.ntmps31
  go_wp2
  go_region
  go_wp2
  refine bodyPost_ret (v := .agg #[.int .i64 a, .int .i64 b, .int .i64 q]) (by simp [results, Try.results31, go_sem]) rfl ⟨rfl, ?_⟩
  repeat (first | exact Below.refl _ _ | refine Below.drew ?_ | refine below_drewN ?_ _ | refine Below.alloc ?_ (by first | (simp; done) | (simp; omega)) _ | refine Below.setCell ?_ (by first | (simp; done) | (simp; omega)) _)
set_option maxHeartbeats 1000000 in
theorem spec_add_2lt (a b c q : Int) (w : World) (h : vvB a b c = true) (h' : dotB 2 q = true) (hq : c < q) :
    Calls Try.prog 20 #[.agg #[.int .i64 a, .int .i64 b, .int .i64 c], .agg #[.int .i64 2, .int .i64 q]] w fun e w' => e = .returned (.tuple #[.agg #[.int .i64 a, .int .i64 b, .int .i64 q], .int .i64 0]) ∧ Below w.heap.size w w' := by
  go_enter Try.func20, Try.ntmps20
  go_wp2_with fail
  refine (spec_vv _ _ _ _).mono ?_
  rintro e w1 ⟨rfl, hb⟩
  have hS1 := vd_keep hb vd_start0
  clear hb
  obtain ⟨_c0, _c1, _c2, _c3, _c4, _c5, _c6, _c7, _c8, _c9, _c10, _c11, _c12, _c13, _hB, _hz⟩ := id hS1
  go_wp2_with fail
  refine (spec_dot _ _ _).mono ?_
  rintro e w2 ⟨rfl, hb⟩
  have hS2 := vd_keep hb hS1
  clear hb
  obtain ⟨_c0, _c1, _c2, _c3, _c4, _c5, _c6, _c7, _c8, _c9, _c10, _c11, _c12, _c13, _hB, _hz⟩ := id hS2
  go_wp2_with fail
  refine (l01add_2lt _ _ _ _ _ hq).mono ?_
  rintro e w3 ⟨rfl, hb⟩
  have hS3 := vd_keep hb hS2
  clear hb
  obtain ⟨_c0, _c1, _c2, _c3, _c4, _c5, _c6, _c7, _c8, _c9, _c10, _c11, _c12, _c13, _hB, _hz⟩ := id hS3
  go_wp2_with fail
  refine bodyPost_ret (v := .tuple #[.agg #[.int .i64 a, .int .i64 b, .int .i64 q], .int .i64 0]) (by simp [results, Try.results20, go_sem, _c0, _c1, _c2, _c5, _c6, _c7, _c8, _c9, _c10, _c11, _c12, _c13]) rfl ⟨rfl, ?_⟩
  repeat (first | exact _hB | exact Below.refl _ _ | refine Below.drew ?_ | refine below_drewN ?_ _ | refine Below.alloc ?_ (by first | (simp; done) | (simp; omega)) _ | refine Below.setCell ?_ (by first | (simp; done) | (simp; omega)) _)
set_option maxHeartbeats 1000000 in
theorem impl_add_2lt (a b c q : Int) (w : World) (h : vvB a b c = true) (h' : dotB 2 q = true) (hq : c < q) :
    Calls Try.prog 21 #[.agg #[.int .i64 a, .int .i64 b, .int .i64 c], .agg #[.int .i64 2, .int .i64 q]] w fun e w' => e = .returned (.tuple #[.agg #[.int .i64 a, .int .i64 b, .int .i64 q], .int .i64 0]) ∧ Below w.heap.size w w' := by
  go_enter Try.func21, Try.ntmps21
  go_wp2_with fail
  refine (impl_vv _ _ _ _).mono ?_
  rintro e w1 ⟨rfl, hb⟩
  have hS1 := vd_keep hb vd_start0
  clear hb
  obtain ⟨_c0, _c1, _c2, _c3, _c4, _c5, _c6, _c7, _c8, _c9, _c10, _c11, _c12, _c13, _hB, _hz⟩ := id hS1
  go_wp2_with fail
  refine (impl_dot _ _ _).mono ?_
  rintro e w2 ⟨rfl, hb⟩
  have hS2 := vd_keep hb hS1
  clear hb
  obtain ⟨_c0, _c1, _c2, _c3, _c4, _c5, _c6, _c7, _c8, _c9, _c10, _c11, _c12, _c13, _hB, _hz⟩ := id hS2
  clear hS1 hS2
  go_wp2_with fail
  go_region
  go_wp2_with fail
  refine bodyPost_ret (v := .tuple #[.agg #[.int .i64 a, .int .i64 b, .int .i64 q], .int .i64 0]) (by simp [results, Try.results21, go_sem, _c0, _c1, _c2, _c5, _c6, _c7, _c8, _c9, _c10, _c11, _c12, _c13]) rfl ⟨rfl, ?_⟩
  exact ((_hB.setCell (by simp) _).setCell (by simp; omega) _ |>.setCell (by simp; omega) _ |>.setCell (by simp; omega) _).drew


set_option maxHeartbeats 1000000 in
theorem l01add_2ge (a b c q : Int) (w : World) (hq : q ≤ c) :
    Calls Try.prog 31 #[.agg #[.int .i64 a, .int .i64 b, .int .i64 c], .agg #[.int .i64 2, .int .i64 q]] w fun e w' => e = .returned (.agg #[.int .i64 a, .int .i64 b, .int .i64 c]) ∧ Below w.heap.size w w' := by
  go_enter Try.func31, Try.ntmps31
  go_wp2
  go_region
  go_wp2
  refine bodyPost_ret (v := .agg #[.int .i64 a, .int .i64 b, .int .i64 c]) (by simp [results, Try.results31, go_sem]) rfl ⟨rfl, ?_⟩
  repeat (first | exact Below.refl _ _ | refine Below.drew ?_ | refine below_drewN ?_ _ | refine Below.alloc ?_ (by first | (simp; done) | (simp; omega)) _ | refine Below.setCell ?_ (by first | (simp; done) | (simp; omega)) _)
set_option maxHeartbeats 1000000 in
theorem spec_add_2ge (a b c q : Int) (w : World) (h : vvB a b c = true) (h' : dotB 2 q = true) (hq : q ≤ c) :
    Calls Try.prog 20 #[.agg #[.int .i64 a, .int .i64 b, .int .i64 c], .agg #[.int .i64 2, .int .i64 q]] w fun e w' => e = .returned (.tuple #[.agg #[.int .i64 a, .int .i64 b, .int .i64 c], .int .i64 0]) ∧ Below w.heap.size w w' := by
  go_enter Try.func20, Try.ntmps20
  go_wp2_with fail
  refine (spec_vv _ _ _ _).mono ?_
  rintro e w1 ⟨rfl, hb⟩
  have hS1 := vd_keep hb vd_start0
  clear hb
  obtain ⟨_c0, _c1, _c2, _c3, _c4, _c5, _c6, _c7, _c8, _c9, _c10, _c11, _c12, _c13, _hB, _hz⟩ := id hS1
  go_wp2_with fail
  refine (spec_dot _ _ _).mono ?_
  rintro e w2 ⟨rfl, hb⟩
  have hS2 := vd_keep hb hS1
  clear hb
  obtain ⟨_c0, _c1, _c2, _c3, _c4, _c5, _c6, _c7, _c8, _c9, _c10, _c11, _c12, _c13, _hB, _hz⟩ := id hS2
  go_wp2_with fail
  refine (l01add_2ge _ _ _ _ _ hq).mono ?_
  rintro e w3 ⟨rfl, hb⟩
  have hS3 := vd_keep hb hS2
  clear hb
  obtain ⟨_c0, _c1, _c2, _c3, _c4, _c5, _c6, _c7, _c8, _c9, _c10, _c11, _c12, _c13, _hB, _hz⟩ := id hS3
  go_wp2_with fail
  refine bodyPost_ret (v := .tuple #[.agg #[.int .i64 a, .int .i64 b, .int .i64 c], .int .i64 0]) (by simp [results, Try.results20, go_sem, _c0, _c1, _c2, _c5, _c6, _c7, _c8, _c9, _c10, _c11, _c12, _c13]) rfl ⟨rfl, ?_⟩
  repeat (first | exact _hB | exact Below.refl _ _ | refine Below.drew ?_ | refine below_drewN ?_ _ | refine Below.alloc ?_ (by first | (simp; done) | (simp; omega)) _ | refine Below.setCell ?_ (by first | (simp; done) | (simp; omega)) _)
set_option maxHeartbeats 1000000 in
theorem impl_add_2ge (a b c q : Int) (w : World) (h : vvB a b c = true) (h' : dotB 2 q = true) (hq : q ≤ c) :
    Calls Try.prog 21 #[.agg #[.int .i64 a, .int .i64 b, .int .i64 c], .agg #[.int .i64 2, .int .i64 q]] w fun e w' => e = .returned (.tuple #[.agg #[.int .i64 a, .int .i64 b, .int .i64 c], .int .i64 0]) ∧ Below w.heap.size w w' := by
  go_enter Try.func21, Try.ntmps21
  go_wp2_with fail
  refine (impl_vv _ _ _ _).mono ?_
  rintro e w1 ⟨rfl, hb⟩
  have hS1 := vd_keep hb vd_start0
  clear hb
  obtain ⟨_c0, _c1, _c2, _c3, _c4, _c5, _c6, _c7, _c8, _c9, _c10, _c11, _c12, _c13, _hB, _hz⟩ := id hS1
  go_wp2_with fail
  refine (impl_dot _ _ _).mono ?_
  rintro e w2 ⟨rfl, hb⟩
  have hS2 := vd_keep hb hS1
  clear hb
  obtain ⟨_c0, _c1, _c2, _c3, _c4, _c5, _c6, _c7, _c8, _c9, _c10, _c11, _c12, _c13, _hB, _hz⟩ := id hS2
  clear hS1 hS2
  go_wp2_with fail
  go_region
  go_wp2_with fail
  refine bodyPost_ret (v := .tuple #[.agg #[.int .i64 a, .int .i64 b, .int .i64 c], .int .i64 0]) (by simp [results, Try.results21, go_sem, _c0, _c1, _c2, _c5, _c6, _c7, _c8, _c9, _c10, _c11, _c12, _c13]) rfl ⟨rfl, ?_⟩
  exact ((_hB.setCell (by simp) _).setCell (by simp; omega) _ |>.setCell (by simp; omega) _ |>.setCell (by simp; omega) _).drew

end Go.Proofs.Ytcappnoghakdbah

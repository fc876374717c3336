/- The lesser of what two know, as the specification has it, where both are right. -/
import Derived.Test.YtcappnoghakdbahRows
import Derived.Test.YtcappnoghakdbahVv
import Derived.Test.YtcappnoghakdbahMm
import Derived.WalkKit
import Derived.WalkSpells
import Derived.WalkLawsBesides
import Derived.Deep.QuietTactic
import Derived.BigQuiet
import Derived.Deep.RegionHeld3
import Derived.LoopN
import Derived.RegionTactic
import Derived.BigRegion
namespace Go.Proofs.Ytcappnoghakdbah
open Go.RowKit
set_option linter.unusedSimpArgs false
set_option linter.unusedVariables false


theorem vn_keep {a b c x y z : Int} {w W W' : World} (hb : Below W.heap.size W W') (h : W.cell? ⟨w.heap.size, 0, none⟩ = some (.int .i64 a) ∧ W.cell? ⟨w.heap.size, 1, none⟩ = some (.int .i64 b) ∧ W.cell? ⟨w.heap.size, 2, none⟩ = some (.int .i64 c) ∧ W.cell? ⟨w.heap.size + 1, 0, none⟩ = some (.int .i64 x) ∧ W.cell? ⟨w.heap.size + 1, 1, none⟩ = some (.int .i64 y) ∧ W.cell? ⟨w.heap.size + 1, 2, none⟩ = some (.int .i64 z) ∧ W.cell? ⟨w.heap.size + 2, 0, none⟩ = some (.int .i64 0) ∧ W.cell? ⟨w.heap.size + 2, 1, none⟩ = some (.int .i64 0) ∧ W.cell? ⟨w.heap.size + 2, 2, none⟩ = some (.int .i64 0) ∧ W.frozen? ⟨w.heap.size, 0, none⟩ = false ∧ W.frozen? ⟨w.heap.size, 1, none⟩ = false ∧ W.frozen? ⟨w.heap.size, 2, none⟩ = false ∧ W.frozen? ⟨w.heap.size + 2, 0, none⟩ = false ∧ W.frozen? ⟨w.heap.size + 2, 1, none⟩ = false ∧ W.frozen? ⟨w.heap.size + 2, 2, none⟩ = false ∧ Below w.heap.size w W ∧ w.heap.size + 3 ≤ W.heap.size) : W'.cell? ⟨w.heap.size, 0, none⟩ = some (.int .i64 a) ∧ W'.cell? ⟨w.heap.size, 1, none⟩ = some (.int .i64 b) ∧ W'.cell? ⟨w.heap.size, 2, none⟩ = some (.int .i64 c) ∧ W'.cell? ⟨w.heap.size + 1, 0, none⟩ = some (.int .i64 x) ∧ W'.cell? ⟨w.heap.size + 1, 1, none⟩ = some (.int .i64 y) ∧ W'.cell? ⟨w.heap.size + 1, 2, none⟩ = some (.int .i64 z) ∧ W'.cell? ⟨w.heap.size + 2, 0, none⟩ = some (.int .i64 0) ∧ W'.cell? ⟨w.heap.size + 2, 1, none⟩ = some (.int .i64 0) ∧ W'.cell? ⟨w.heap.size + 2, 2, none⟩ = some (.int .i64 0) ∧ W'.frozen? ⟨w.heap.size, 0, none⟩ = false ∧ W'.frozen? ⟨w.heap.size, 1, none⟩ = false ∧ W'.frozen? ⟨w.heap.size, 2, none⟩ = false ∧ W'.frozen? ⟨w.heap.size + 2, 0, none⟩ = false ∧ W'.frozen? ⟨w.heap.size + 2, 1, none⟩ = false ∧ W'.frozen? ⟨w.heap.size + 2, 2, none⟩ = false ∧ Below w.heap.size w W' ∧ w.heap.size + 3 ≤ W'.heap.size := by
  obtain ⟨c0, c1, c2, c3, c4, c5, c6, c7, c8, f0, f1, f2, f3, f4, f5, hB, hz⟩ := h
  have hq := hb.size
  exact ⟨cell_next hb c0 (by omega), cell_next hb c1 (by omega), cell_next hb c2 (by omega), cell_next hb c3 (by omega), cell_next hb c4 (by omega), cell_next hb c5 (by omega), cell_next hb c6 (by omega), cell_next hb c7 (by omega), cell_next hb c8 (by omega), frozen_next hb f0 (by omega), frozen_next hb f1 (by omega), frozen_next hb f2 (by omega), frozen_next hb f3 (by omega), frozen_next hb f4 (by omega), frozen_next hb f5 (by omega), hB.trans (hb.mono (by omega)), by omega⟩
theorem vn_alloc {a b c x y z : Int} {w W : World} {o : Obj} (h : W.cell? ⟨w.heap.size, 0, none⟩ = some (.int .i64 a) ∧ W.cell? ⟨w.heap.size, 1, none⟩ = some (.int .i64 b) ∧ W.cell? ⟨w.heap.size, 2, none⟩ = some (.int .i64 c) ∧ W.cell? ⟨w.heap.size + 1, 0, none⟩ = some (.int .i64 x) ∧ W.cell? ⟨w.heap.size + 1, 1, none⟩ = some (.int .i64 y) ∧ W.cell? ⟨w.heap.size + 1, 2, none⟩ = some (.int .i64 z) ∧ W.cell? ⟨w.heap.size + 2, 0, none⟩ = some (.int .i64 0) ∧ W.cell? ⟨w.heap.size + 2, 1, none⟩ = some (.int .i64 0) ∧ W.cell? ⟨w.heap.size + 2, 2, none⟩ = some (.int .i64 0) ∧ W.frozen? ⟨w.heap.size, 0, none⟩ = false ∧ W.frozen? ⟨w.heap.size, 1, none⟩ = false ∧ W.frozen? ⟨w.heap.size, 2, none⟩ = false ∧ W.frozen? ⟨w.heap.size + 2, 0, none⟩ = false ∧ W.frozen? ⟨w.heap.size + 2, 1, none⟩ = false ∧ W.frozen? ⟨w.heap.size + 2, 2, none⟩ = false ∧ Below w.heap.size w W ∧ w.heap.size + 3 ≤ W.heap.size) : (W.alloc o).cell? ⟨w.heap.size, 0, none⟩ = some (.int .i64 a) ∧ (W.alloc o).cell? ⟨w.heap.size, 1, none⟩ = some (.int .i64 b) ∧ (W.alloc o).cell? ⟨w.heap.size, 2, none⟩ = some (.int .i64 c) ∧ (W.alloc o).cell? ⟨w.heap.size + 1, 0, none⟩ = some (.int .i64 x) ∧ (W.alloc o).cell? ⟨w.heap.size + 1, 1, none⟩ = some (.int .i64 y) ∧ (W.alloc o).cell? ⟨w.heap.size + 1, 2, none⟩ = some (.int .i64 z) ∧ (W.alloc o).cell? ⟨w.heap.size + 2, 0, none⟩ = some (.int .i64 0) ∧ (W.alloc o).cell? ⟨w.heap.size + 2, 1, none⟩ = some (.int .i64 0) ∧ (W.alloc o).cell? ⟨w.heap.size + 2, 2, none⟩ = some (.int .i64 0) ∧ (W.alloc o).frozen? ⟨w.heap.size, 0, none⟩ = false ∧ (W.alloc o).frozen? ⟨w.heap.size, 1, none⟩ = false ∧ (W.alloc o).frozen? ⟨w.heap.size, 2, none⟩ = false ∧ (W.alloc o).frozen? ⟨w.heap.size + 2, 0, none⟩ = false ∧ (W.alloc o).frozen? ⟨w.heap.size + 2, 1, none⟩ = false ∧ (W.alloc o).frozen? ⟨w.heap.size + 2, 2, none⟩ = false ∧ Below w.heap.size w (W.alloc o) ∧ w.heap.size + 3 ≤ (W.alloc o).heap.size := vn_keep ((Below.refl _ _).alloc (Nat.le_refl _) _) h
theorem vn_drew {a b c x y z : Int} {w W : World} (h : W.cell? ⟨w.heap.size, 0, none⟩ = some (.int .i64 a) ∧ W.cell? ⟨w.heap.size, 1, none⟩ = some (.int .i64 b) ∧ W.cell? ⟨w.heap.size, 2, none⟩ = some (.int .i64 c) ∧ W.cell? ⟨w.heap.size + 1, 0, none⟩ = some (.int .i64 x) ∧ W.cell? ⟨w.heap.size + 1, 1, none⟩ = some (.int .i64 y) ∧ W.cell? ⟨w.heap.size + 1, 2, none⟩ = some (.int .i64 z) ∧ W.cell? ⟨w.heap.size + 2, 0, none⟩ = some (.int .i64 0) ∧ W.cell? ⟨w.heap.size + 2, 1, none⟩ = some (.int .i64 0) ∧ W.cell? ⟨w.heap.size + 2, 2, none⟩ = some (.int .i64 0) ∧ W.frozen? ⟨w.heap.size, 0, none⟩ = false ∧ W.frozen? ⟨w.heap.size, 1, none⟩ = false ∧ W.frozen? ⟨w.heap.size, 2, none⟩ = false ∧ W.frozen? ⟨w.heap.size + 2, 0, none⟩ = false ∧ W.frozen? ⟨w.heap.size + 2, 1, none⟩ = false ∧ W.frozen? ⟨w.heap.size + 2, 2, none⟩ = false ∧ Below w.heap.size w W ∧ w.heap.size + 3 ≤ W.heap.size) : W.drew.cell? ⟨w.heap.size, 0, none⟩ = some (.int .i64 a) ∧ W.drew.cell? ⟨w.heap.size, 1, none⟩ = some (.int .i64 b) ∧ W.drew.cell? ⟨w.heap.size, 2, none⟩ = some (.int .i64 c) ∧ W.drew.cell? ⟨w.heap.size + 1, 0, none⟩ = some (.int .i64 x) ∧ W.drew.cell? ⟨w.heap.size + 1, 1, none⟩ = some (.int .i64 y) ∧ W.drew.cell? ⟨w.heap.size + 1, 2, none⟩ = some (.int .i64 z) ∧ W.drew.cell? ⟨w.heap.size + 2, 0, none⟩ = some (.int .i64 0) ∧ W.drew.cell? ⟨w.heap.size + 2, 1, none⟩ = some (.int .i64 0) ∧ W.drew.cell? ⟨w.heap.size + 2, 2, none⟩ = some (.int .i64 0) ∧ W.drew.frozen? ⟨w.heap.size, 0, none⟩ = false ∧ W.drew.frozen? ⟨w.heap.size, 1, none⟩ = false ∧ W.drew.frozen? ⟨w.heap.size, 2, none⟩ = false ∧ W.drew.frozen? ⟨w.heap.size + 2, 0, none⟩ = false ∧ W.drew.frozen? ⟨w.heap.size + 2, 1, none⟩ = false ∧ W.drew.frozen? ⟨w.heap.size + 2, 2, none⟩ = false ∧ Below w.heap.size w W.drew ∧ w.heap.size + 3 ≤ W.drew.heap.size := by
  obtain ⟨c0, c1, c2, c3, c4, c5, c6, c7, c8, f0, f1, f2, f3, f4, f5, hB, hz⟩ := h
  exact ⟨c0, c1, c2, c3, c4, c5, c6, c7, c8, f0, f1, f2, f3, f4, f5, hB.drew, hz⟩
theorem vn_below {a b c x y z : Int} {w W : World} (h : W.cell? ⟨w.heap.size, 0, none⟩ = some (.int .i64 a) ∧ W.cell? ⟨w.heap.size, 1, none⟩ = some (.int .i64 b) ∧ W.cell? ⟨w.heap.size, 2, none⟩ = some (.int .i64 c) ∧ W.cell? ⟨w.heap.size + 1, 0, none⟩ = some (.int .i64 x) ∧ W.cell? ⟨w.heap.size + 1, 1, none⟩ = some (.int .i64 y) ∧ W.cell? ⟨w.heap.size + 1, 2, none⟩ = some (.int .i64 z) ∧ W.cell? ⟨w.heap.size + 2, 0, none⟩ = some (.int .i64 0) ∧ W.cell? ⟨w.heap.size + 2, 1, none⟩ = some (.int .i64 0) ∧ W.cell? ⟨w.heap.size + 2, 2, none⟩ = some (.int .i64 0) ∧ W.frozen? ⟨w.heap.size, 0, none⟩ = false ∧ W.frozen? ⟨w.heap.size, 1, none⟩ = false ∧ W.frozen? ⟨w.heap.size, 2, none⟩ = false ∧ W.frozen? ⟨w.heap.size + 2, 0, none⟩ = false ∧ W.frozen? ⟨w.heap.size + 2, 1, none⟩ = false ∧ W.frozen? ⟨w.heap.size + 2, 2, none⟩ = false ∧ Below w.heap.size w W ∧ w.heap.size + 3 ≤ W.heap.size) : Below w.heap.size w W := by
  obtain ⟨c0, c1, c2, c3, c4, c5, c6, c7, c8, f0, f1, f2, f3, f4, f5, hB, hz⟩ := h
  exact hB
theorem vn_size {a b c x y z : Int} {w W : World} (h : W.cell? ⟨w.heap.size, 0, none⟩ = some (.int .i64 a) ∧ W.cell? ⟨w.heap.size, 1, none⟩ = some (.int .i64 b) ∧ W.cell? ⟨w.heap.size, 2, none⟩ = some (.int .i64 c) ∧ W.cell? ⟨w.heap.size + 1, 0, none⟩ = some (.int .i64 x) ∧ W.cell? ⟨w.heap.size + 1, 1, none⟩ = some (.int .i64 y) ∧ W.cell? ⟨w.heap.size + 1, 2, none⟩ = some (.int .i64 z) ∧ W.cell? ⟨w.heap.size + 2, 0, none⟩ = some (.int .i64 0) ∧ W.cell? ⟨w.heap.size + 2, 1, none⟩ = some (.int .i64 0) ∧ W.cell? ⟨w.heap.size + 2, 2, none⟩ = some (.int .i64 0) ∧ W.frozen? ⟨w.heap.size, 0, none⟩ = false ∧ W.frozen? ⟨w.heap.size, 1, none⟩ = false ∧ W.frozen? ⟨w.heap.size, 2, none⟩ = false ∧ W.frozen? ⟨w.heap.size + 2, 0, none⟩ = false ∧ W.frozen? ⟨w.heap.size + 2, 1, none⟩ = false ∧ W.frozen? ⟨w.heap.size + 2, 2, none⟩ = false ∧ Below w.heap.size w W ∧ w.heap.size + 3 ≤ W.heap.size) : w.heap.size + 3 ≤ W.heap.size := by
  obtain ⟨c0, c1, c2, c3, c4, c5, c6, c7, c8, f0, f1, f2, f3, f4, f5, hB, hz⟩ := h
  exact hz

theorem vn_start {a b c x y z : Int} {w : World} : (((w.alloc (.cells #[.int .i64 a, .int .i64 b, .int .i64 c] 24)).alloc (.cells #[.int .i64 x, .int .i64 y, .int .i64 z] 24)).alloc (.cells #[.int .i64 0, .int .i64 0, .int .i64 0] 24)).drew.cell? ⟨w.heap.size, 0, none⟩ = some (.int .i64 a) ∧ (((w.alloc (.cells #[.int .i64 a, .int .i64 b, .int .i64 c] 24)).alloc (.cells #[.int .i64 x, .int .i64 y, .int .i64 z] 24)).alloc (.cells #[.int .i64 0, .int .i64 0, .int .i64 0] 24)).drew.cell? ⟨w.heap.size, 1, none⟩ = some (.int .i64 b) ∧ (((w.alloc (.cells #[.int .i64 a, .int .i64 b, .int .i64 c] 24)).alloc (.cells #[.int .i64 x, .int .i64 y, .int .i64 z] 24)).alloc (.cells #[.int .i64 0, .int .i64 0, .int .i64 0] 24)).drew.cell? ⟨w.heap.size, 2, none⟩ = some (.int .i64 c) ∧ (((w.alloc (.cells #[.int .i64 a, .int .i64 b, .int .i64 c] 24)).alloc (.cells #[.int .i64 x, .int .i64 y, .int .i64 z] 24)).alloc (.cells #[.int .i64 0, .int .i64 0, .int .i64 0] 24)).drew.cell? ⟨w.heap.size + 1, 0, none⟩ = some (.int .i64 x) ∧ (((w.alloc (.cells #[.int .i64 a, .int .i64 b, .int .i64 c] 24)).alloc (.cells #[.int .i64 x, .int .i64 y, .int .i64 z] 24)).alloc (.cells #[.int .i64 0, .int .i64 0, .int .i64 0] 24)).drew.cell? ⟨w.heap.size + 1, 1, none⟩ = some (.int .i64 y) ∧ (((w.alloc (.cells #[.int .i64 a, .int .i64 b, .int .i64 c] 24)).alloc (.cells #[.int .i64 x, .int .i64 y, .int .i64 z] 24)).alloc (.cells #[.int .i64 0, .int .i64 0, .int .i64 0] 24)).drew.cell? ⟨w.heap.size + 1, 2, none⟩ = some (.int .i64 z) ∧ (((w.alloc (.cells #[.int .i64 a, .int .i64 b, .int .i64 c] 24)).alloc (.cells #[.int .i64 x, .int .i64 y, .int .i64 z] 24)).alloc (.cells #[.int .i64 0, .int .i64 0, .int .i64 0] 24)).drew.cell? ⟨w.heap.size + 2, 0, none⟩ = some (.int .i64 0) ∧ (((w.alloc (.cells #[.int .i64 a, .int .i64 b, .int .i64 c] 24)).alloc (.cells #[.int .i64 x, .int .i64 y, .int .i64 z] 24)).alloc (.cells #[.int .i64 0, .int .i64 0, .int .i64 0] 24)).drew.cell? ⟨w.heap.size + 2, 1, none⟩ = some (.int .i64 0) ∧ (((w.alloc (.cells #[.int .i64 a, .int .i64 b, .int .i64 c] 24)).alloc (.cells #[.int .i64 x, .int .i64 y, .int .i64 z] 24)).alloc (.cells #[.int .i64 0, .int .i64 0, .int .i64 0] 24)).drew.cell? ⟨w.heap.size + 2, 2, none⟩ = some (.int .i64 0) ∧ (((w.alloc (.cells #[.int .i64 a, .int .i64 b, .int .i64 c] 24)).alloc (.cells #[.int .i64 x, .int .i64 y, .int .i64 z] 24)).alloc (.cells #[.int .i64 0, .int .i64 0, .int .i64 0] 24)).drew.frozen? ⟨w.heap.size, 0, none⟩ = false ∧ (((w.alloc (.cells #[.int .i64 a, .int .i64 b, .int .i64 c] 24)).alloc (.cells #[.int .i64 x, .int .i64 y, .int .i64 z] 24)).alloc (.cells #[.int .i64 0, .int .i64 0, .int .i64 0] 24)).drew.frozen? ⟨w.heap.size, 1, none⟩ = false ∧ (((w.alloc (.cells #[.int .i64 a, .int .i64 b, .int .i64 c] 24)).alloc (.cells #[.int .i64 x, .int .i64 y, .int .i64 z] 24)).alloc (.cells #[.int .i64 0, .int .i64 0, .int .i64 0] 24)).drew.frozen? ⟨w.heap.size, 2, none⟩ = false ∧ (((w.alloc (.cells #[.int .i64 a, .int .i64 b, .int .i64 c] 24)).alloc (.cells #[.int .i64 x, .int .i64 y, .int .i64 z] 24)).alloc (.cells #[.int .i64 0, .int .i64 0, .int .i64 0] 24)).drew.frozen? ⟨w.heap.size + 2, 0, none⟩ = false ∧ (((w.alloc (.cells #[.int .i64 a, .int .i64 b, .int .i64 c] 24)).alloc (.cells #[.int .i64 x, .int .i64 y, .int .i64 z] 24)).alloc (.cells #[.int .i64 0, .int .i64 0, .int .i64 0] 24)).drew.frozen? ⟨w.heap.size + 2, 1, none⟩ = false ∧ (((w.alloc (.cells #[.int .i64 a, .int .i64 b, .int .i64 c] 24)).alloc (.cells #[.int .i64 x, .int .i64 y, .int .i64 z] 24)).alloc (.cells #[.int .i64 0, .int .i64 0, .int .i64 0] 24)).drew.frozen? ⟨w.heap.size + 2, 2, none⟩ = false ∧ Below w.heap.size w (((w.alloc (.cells #[.int .i64 a, .int .i64 b, .int .i64 c] 24)).alloc (.cells #[.int .i64 x, .int .i64 y, .int .i64 z] 24)).alloc (.cells #[.int .i64 0, .int .i64 0, .int .i64 0] 24)).drew ∧ w.heap.size + 3 ≤ (((w.alloc (.cells #[.int .i64 a, .int .i64 b, .int .i64 c] 24)).alloc (.cells #[.int .i64 x, .int .i64 y, .int .i64 z] 24)).alloc (.cells #[.int .i64 0, .int .i64 0, .int .i64 0] 24)).drew.heap.size := by
  refine ⟨?_, ?_, ?_, ?_, ?_, ?_, ?_, ?_, ?_, ?_, ?_, ?_, ?_, ?_, ?_, ((((Below.refl _ _).alloc (by simp) _).alloc (by simp) _).alloc (by simp; omega) _).drew, ?_⟩
  all_goals first | (go_simp; done) | (simp; done) | (simp; omega)
theorem vn_start0 {a b c x y z : Int} {w : World} : (((w.alloc (.cells #[.int .i64 a, .int .i64 b, .int .i64 c] 24)).alloc (.cells #[.int .i64 x, .int .i64 y, .int .i64 z] 24)).alloc (.cells #[.int .i64 0, .int .i64 0, .int .i64 0] 24)).cell? ⟨w.heap.size, 0, none⟩ = some (.int .i64 a) ∧ (((w.alloc (.cells #[.int .i64 a, .int .i64 b, .int .i64 c] 24)).alloc (.cells #[.int .i64 x, .int .i64 y, .int .i64 z] 24)).alloc (.cells #[.int .i64 0, .int .i64 0, .int .i64 0] 24)).cell? ⟨w.heap.size, 1, none⟩ = some (.int .i64 b) ∧ (((w.alloc (.cells #[.int .i64 a, .int .i64 b, .int .i64 c] 24)).alloc (.cells #[.int .i64 x, .int .i64 y, .int .i64 z] 24)).alloc (.cells #[.int .i64 0, .int .i64 0, .int .i64 0] 24)).cell? ⟨w.heap.size, 2, none⟩ = some (.int .i64 c) ∧ (((w.alloc (.cells #[.int .i64 a, .int .i64 b, .int .i64 c] 24)).alloc (.cells #[.int .i64 x, .int .i64 y, .int .i64 z] 24)).alloc (.cells #[.int .i64 0, .int .i64 0, .int .i64 0] 24)).cell? ⟨w.heap.size + 1, 0, none⟩ = some (.int .i64 x) ∧ (((w.alloc (.cells #[.int .i64 a, .int .i64 b, .int .i64 c] 24)).alloc (.cells #[.int .i64 x, .int .i64 y, .int .i64 z] 24)).alloc (.cells #[.int .i64 0, .int .i64 0, .int .i64 0] 24)).cell? ⟨w.heap.size + 1, 1, none⟩ = some (.int .i64 y) ∧ (((w.alloc (.cells #[.int .i64 a, .int .i64 b, .int .i64 c] 24)).alloc (.cells #[.int .i64 x, .int .i64 y, .int .i64 z] 24)).alloc (.cells #[.int .i64 0, .int .i64 0, .int .i64 0] 24)).cell? ⟨w.heap.size + 1, 2, none⟩ = some (.int .i64 z) ∧ (((w.alloc (.cells #[.int .i64 a, .int .i64 b, .int .i64 c] 24)).alloc (.cells #[.int .i64 x, .int .i64 y, .int .i64 z] 24)).alloc (.cells #[.int .i64 0, .int .i64 0, .int .i64 0] 24)).cell? ⟨w.heap.size + 2, 0, none⟩ = some (.int .i64 0) ∧ (((w.alloc (.cells #[.int .i64 a, .int .i64 b, .int .i64 c] 24)).alloc (.cells #[.int .i64 x, .int .i64 y, .int .i64 z] 24)).alloc (.cells #[.int .i64 0, .int .i64 0, .int .i64 0] 24)).cell? ⟨w.heap.size + 2, 1, none⟩ = some (.int .i64 0) ∧ (((w.alloc (.cells #[.int .i64 a, .int .i64 b, .int .i64 c] 24)).alloc (.cells #[.int .i64 x, .int .i64 y, .int .i64 z] 24)).alloc (.cells #[.int .i64 0, .int .i64 0, .int .i64 0] 24)).cell? ⟨w.heap.size + 2, 2, none⟩ = some (.int .i64 0) ∧ (((w.alloc (.cells #[.int .i64 a, .int .i64 b, .int .i64 c] 24)).alloc (.cells #[.int .i64 x, .int .i64 y, .int .i64 z] 24)).alloc (.cells #[.int .i64 0, .int .i64 0, .int .i64 0] 24)).frozen? ⟨w.heap.size, 0, none⟩ = false ∧ (((w.alloc (.cells #[.int .i64 a, .int .i64 b, .int .i64 c] 24)).alloc (.cells #[.int .i64 x, .int .i64 y, .int .i64 z] 24)).alloc (.cells #[.int .i64 0, .int .i64 0, .int .i64 0] 24)).frozen? ⟨w.heap.size, 1, none⟩ = false ∧ (((w.alloc (.cells #[.int .i64 a, .int .i64 b, .int .i64 c] 24)).alloc (.cells #[.int .i64 x, .int .i64 y, .int .i64 z] 24)).alloc (.cells #[.int .i64 0, .int .i64 0, .int .i64 0] 24)).frozen? ⟨w.heap.size, 2, none⟩ = false ∧ (((w.alloc (.cells #[.int .i64 a, .int .i64 b, .int .i64 c] 24)).alloc (.cells #[.int .i64 x, .int .i64 y, .int .i64 z] 24)).alloc (.cells #[.int .i64 0, .int .i64 0, .int .i64 0] 24)).frozen? ⟨w.heap.size + 2, 0, none⟩ = false ∧ (((w.alloc (.cells #[.int .i64 a, .int .i64 b, .int .i64 c] 24)).alloc (.cells #[.int .i64 x, .int .i64 y, .int .i64 z] 24)).alloc (.cells #[.int .i64 0, .int .i64 0, .int .i64 0] 24)).frozen? ⟨w.heap.size + 2, 1, none⟩ = false ∧ (((w.alloc (.cells #[.int .i64 a, .int .i64 b, .int .i64 c] 24)).alloc (.cells #[.int .i64 x, .int .i64 y, .int .i64 z] 24)).alloc (.cells #[.int .i64 0, .int .i64 0, .int .i64 0] 24)).frozen? ⟨w.heap.size + 2, 2, none⟩ = false ∧ Below w.heap.size w (((w.alloc (.cells #[.int .i64 a, .int .i64 b, .int .i64 c] 24)).alloc (.cells #[.int .i64 x, .int .i64 y, .int .i64 z] 24)).alloc (.cells #[.int .i64 0, .int .i64 0, .int .i64 0] 24)) ∧ w.heap.size + 3 ≤ (((w.alloc (.cells #[.int .i64 a, .int .i64 b, .int .i64 c] 24)).alloc (.cells #[.int .i64 x, .int .i64 y, .int .i64 z] 24)).alloc (.cells #[.int .i64 0, .int .i64 0, .int .i64 0] 24)).heap.size := by
  refine ⟨?_, ?_, ?_, ?_, ?_, ?_, ?_, ?_, ?_, ?_, ?_, ?_, ?_, ?_, ?_, ((((Below.refl _ _).alloc (by simp) _).alloc (by simp) _).alloc (by simp; omega) _), ?_⟩
  all_goals first | (go_simp; done) | (simp; done) | (simp; omega)


set_option maxHeartbeats 1000000 in
theorem spec_min_g000 (a b c x y z : Int) (w : World) (h : vvB a b c = true) (h' : vvB x y z = true) (h1 : x < a) (h2 : y < b) (h3 : z < c) :
    Calls Try.prog 15 #[.agg #[.int .i64 a, .int .i64 b, .int .i64 c], .agg #[.int .i64 x, .int .i64 y, .int .i64 z]] w fun e w' => e = .returned (.tuple #[.agg #[.int .i64 x, .int .i64 y, .int .i64 z], .int .i64 0]) ∧ Below w.heap.size w w' := by
  go_enter Try.func15, Try.ntmps15
  go_wp2_with fail
  refine (spec_vv _ _ _ _).mono ?_
  rintro e w1 ⟨rfl, hb⟩
  have hS1 := vn_keep hb vn_start0
  clear hb
  obtain ⟨_c0, _c1, _c2, _c3, _c4, _c5, _c6, _c7, _c8, _c9, _c10, _c11, _c12, _c13, _c14, _hB, _hz⟩ := id hS1
  go_wp2_with fail
  refine (spec_vv _ _ _ _).mono ?_
  rintro e w2 ⟨rfl, hb⟩
  have hS2 := vn_keep hb hS1
  clear hb
  obtain ⟨_c0, _c1, _c2, _c3, _c4, _c5, _c6, _c7, _c8, _c9, _c10, _c11, _c12, _c13, _c14, _hB, _hz⟩ := id hS2
  clear hS1 hS2
  go_wp2_with fail
  refine wp_loop_rounds 4 ?_
  rw [rounds_succ]; go_wp2; go_region; go_wp2
  rw [rounds_succ]; go_wp2; go_region; go_wp2
  rw [rounds_succ]; go_wp2; go_region; go_wp2
  rw [rounds_succ]; go_wp2
  refine bodyPost_ret (v := .tuple #[.agg #[.int .i64 x, .int .i64 y, .int .i64 z], .int .i64 0]) (by simp [results, Try.results15, go_sem, _c0, _c1, _c2, _c3, _c4, _c5, _c6, _c7, _c8]) rfl ⟨rfl, ?_⟩
  exact (((_hB.setCell (by simp) _).setCell (by simp) _).setCell (by simp) _ |>.setCell (by simp; omega) _ |>.setCell (by simp; omega) _ |>.setCell (by simp; omega) _).drew.drew.drew


set_option maxHeartbeats 1000000 in
theorem spec_min_g001 (a b c x y z : Int) (w : World) (h : vvB a b c = true) (h' : vvB x y z = true) (h1 : x < a) (h2 : y < b) (h3 : c ≤ z) :
    Calls Try.prog 15 #[.agg #[.int .i64 a, .int .i64 b, .int .i64 c], .agg #[.int .i64 x, .int .i64 y, .int .i64 z]] w fun e w' => e = .returned (.tuple #[.agg #[.int .i64 x, .int .i64 y, .int .i64 c], .int .i64 0]) ∧ Below w.heap.size w w' := by
  go_enter Try.func15, Try.ntmps15
  go_wp2_with fail
  refine (spec_vv _ _ _ _).mono ?_
  rintro e w1 ⟨rfl, hb⟩
  have hS1 := vn_keep hb vn_start0
  clear hb
  obtain ⟨_c0, _c1, _c2, _c3, _c4, _c5, _c6, _c7, _c8, _c9, _c10, _c11, _c12, _c13, _c14, _hB, _hz⟩ := id hS1
  go_wp2_with fail
  refine (spec_vv _ _ _ _).mono ?_
  rintro e w2 ⟨rfl, hb⟩
  have hS2 := vn_keep hb hS1
  clear hb
  obtain ⟨_c0, _c1, _c2, _c3, _c4, _c5, _c6, _c7, _c8, _c9, _c10, _c11, _c12, _c13, _c14, _hB, _hz⟩ := id hS2
  clear hS1 hS2
  go_wp2_with fail
  refine wp_loop_rounds 4 ?_
  rw [rounds_succ]; go_wp2; go_region; go_wp2
  rw [rounds_succ]; go_wp2; go_region; go_wp2
  rw [rounds_succ]; go_wp2; go_region; go_wp2
  rw [rounds_succ]; go_wp2
  refine bodyPost_ret (v := .tuple #[.agg #[.int .i64 x, .int .i64 y, .int .i64 c], .int .i64 0]) (by simp [results, Try.results15, go_sem, _c0, _c1, _c2, _c3, _c4, _c5, _c6, _c7, _c8]) rfl ⟨rfl, ?_⟩
  exact (((_hB.setCell (by simp) _).setCell (by simp) _).setCell (by simp) _ |>.setCell (by simp; omega) _ |>.setCell (by simp; omega) _ |>.setCell (by simp; omega) _).drew.drew.drew


set_option maxHeartbeats 1000000 in
theorem spec_min_g010 (a b c x y z : Int) (w : World) (h : vvB a b c = true) (h' : vvB x y z = true) (h1 : x < a) (h2 : b ≤ y) (h3 : z < c) :
    Calls Try.prog 15 #[.agg #[.int .i64 a, .int .i64 b, .int .i64 c], .agg #[.int .i64 x, .int .i64 y, .int .i64 z]] w fun e w' => e = .returned (.tuple #[.agg #[.int .i64 x, .int .i64 b, .int .i64 z], .int .i64 0]) ∧ Below w.heap.size w w' := by
  go_enter Try.func15, Try.ntmps15
  go_wp2_with fail
  refine (spec_vv _ _ _ _).mono ?_
  rintro e w1 ⟨rfl, hb⟩
  have hS1 := vn_keep hb vn_start0
  clear hb
  obtain ⟨_c0, _c1, _c2, _c3, _c4, _c5, _c6, _c7, _c8, _c9, _c10, _c11, _c12, _c13, _c14, _hB, _hz⟩ := id hS1
  go_wp2_with fail
  refine (spec_vv _ _ _ _).mono ?_
  rintro e w2 ⟨rfl, hb⟩
  have hS2 := vn_keep hb hS1
  clear hb
  obtain ⟨_c0, _c1, _c2, _c3, _c4, _c5, _c6, _c7, _c8, _c9, _c10, _c11, _c12, _c13, _c14, _hB, _hz⟩ := id hS2
  clear hS1 hS2
  go_wp2_with fail
  refine wp_loop_rounds 4 ?_
  rw [rounds_succ]; go_wp2; go_region; go_wp2
  rw [rounds_succ]; go_wp2; go_region; go_wp2
  rw [rounds_succ]; go_wp2; go_region; go_wp2
  rw [rounds_succ]; go_wp2
  refine bodyPost_ret (v := .tuple #[.agg #[.int .i64 x, .int .i64 b, .int .i64 z], .int .i64 0]) (by simp [results, Try.results15, go_sem, _c0, _c1, _c2, _c3, _c4, _c5, _c6, _c7, _c8]) rfl ⟨rfl, ?_⟩
  exact (((_hB.setCell (by simp) _).setCell (by simp) _).setCell (by simp) _ |>.setCell (by simp; omega) _ |>.setCell (by simp; omega) _ |>.setCell (by simp; omega) _).drew.drew.drew


set_option maxHeartbeats 1000000 in
theorem spec_min_g011 (a b c x y z : Int) (w : World) (h : vvB a b c = true) (h' : vvB x y z = true) (h1 : x < a) (h2 : b ≤ y) (h3 : c ≤ z) :
    Calls Try.prog 15 #[.agg #[.int .i64 a, .int .i64 b, .int .i64 c], .agg #[.int .i64 x, .int .i64 y, .int .i64 z]] w fun e w' => e = .returned (.tuple #[.agg #[.int .i64 x, .int .i64 b, .int .i64 c], .int .i64 0]) ∧ Below w.heap.size w w' := by
  go_enter Try.func15, Try.ntmps15
  go_wp2_with fail
  refine (spec_vv _ _ _ _).mono ?_
  rintro e w1 ⟨rfl, hb⟩
  have hS1 := vn_keep hb vn_start0
  clear hb
  obtain ⟨_c0, _c1, _c2, _c3, _c4, _c5, _c6, _c7, _c8, _c9, _c10, _c11, _c12, _c13, _c14, _hB, _hz⟩ := id hS1
  go_wp2_with fail
  refine (spec_vv _ _ _ _).mono ?_
  rintro e w2 ⟨rfl, hb⟩
  have hS2 := vn_keep hb hS1
  clear hb
  obtain ⟨_c0, _c1, _c2, _c3, _c4, _c5, _c6, _c7, _c8, _c9, _c10, _c11, _c12, _c13, _c14, _hB, _hz⟩ := id hS2
  clear hS1 hS2
  go_wp2_with fail
  refine wp_loop_rounds 4 ?_
  rw [rounds_succ]; go_wp2; go_region; go_wp2
  rw [rounds_succ]; go_wp2; go_region; go_wp2
  rw [rounds_succ]; go_wp2; go_region; go_wp2
  rw [rounds_succ]; go_wp2
  refine bodyPost_ret (v := .tuple #[.agg #[.int .i64 x, .int .i64 b, .int .i64 c], .int .i64 0]) (by simp [results, Try.results15, go_sem, _c0, _c1, _c2, _c3, _c4, _c5, _c6, _c7, _c8]) rfl ⟨rfl, ?_⟩
  exact (((_hB.setCell (by simp) _).setCell (by simp) _).setCell (by simp) _ |>.setCell (by simp; omega) _ |>.setCell (by simp; omega) _ |>.setCell (by simp; omega) _).drew.drew.drew


set_option maxHeartbeats 1000000 in
theorem spec_min_g100 (a b c x y z : Int) (w : World) (h : vvB a b c = true) (h' : vvB x y z = true) (h1 : a ≤ x) (h2 : y < b) (h3 : z < c) :
    Calls Try.prog 15 #[.agg #[.int .i64 a, .int .i64 b, .int .i64 c], .agg #[.int .i64 x, .int .i64 y, .int .i64 z]] w fun e w' => e = .returned (.tuple #[.agg #[.int .i64 a, .int .i64 y, .int .i64 z], .int .i64 0]) ∧ Below w.heap.size w w' := by
  go_enter Try.func15, Try.ntmps15
  go_wp2_with fail
  refine (spec_vv _ _ _ _).mono ?_
  rintro e w1 ⟨rfl, hb⟩
  have hS1 := vn_keep hb vn_start0
  clear hb
  obtain ⟨_c0, _c1, _c2, _c3, _c4, _c5, _c6, _c7, _c8, _c9, _c10, _c11, _c12, _c13, _c14, _hB, _hz⟩ := id hS1
  go_wp2_with fail
  refine (spec_vv _ _ _ _).mono ?_
  rintro e w2 ⟨rfl, hb⟩
  have hS2 := vn_keep hb hS1
  clear hb
  obtain ⟨_c0, _c1, _c2, _c3, _c4, _c5, _c6, _c7, _c8, _c9, _c10, _c11, _c12, _c13, _c14, _hB, _hz⟩ := id hS2
  clear hS1 hS2
  go_wp2_with fail
  refine wp_loop_rounds 4 ?_
  rw [rounds_succ]; go_wp2; go_region; go_wp2
  rw [rounds_succ]; go_wp2; go_region; go_wp2
  rw [rounds_succ]; go_wp2; go_region; go_wp2
  rw [rounds_succ]; go_wp2
  refine bodyPost_ret (v := .tuple #[.agg #[.int .i64 a, .int .i64 y, .int .i64 z], .int .i64 0]) (by simp [results, Try.results15, go_sem, _c0, _c1, _c2, _c3, _c4, _c5, _c6, _c7, _c8]) rfl ⟨rfl, ?_⟩
  exact (((_hB.setCell (by simp) _).setCell (by simp) _).setCell (by simp) _ |>.setCell (by simp; omega) _ |>.setCell (by simp; omega) _ |>.setCell (by simp; omega) _).drew.drew.drew


set_option maxHeartbeats 1000000 in
theorem spec_min_g101 (a b c x y z : Int) (w : World) (h : vvB a b c = true) (h' : vvB x y z = true) (h1 : a ≤ x) (h2 : y < b) (h3 : c ≤ z) :
    Calls Try.prog 15 #[.agg #[.int .i64 a, .int .i64 b, .int .i64 c], .agg #[.int .i64 x, .int .i64 y, .int .i64 z]] w fun e w' => e = .returned (.tuple #[.agg #[.int .i64 a, .int .i64 y, .int .i64 c], .int .i64 0]) ∧ Below w.heap.size w w' := by
  go_enter Try.func15, Try.ntmps15
  go_wp2_with fail
  refine (spec_vv _ _ _ _).mono ?_
  rintro e w1 ⟨rfl, hb⟩
  have hS1 := vn_keep hb vn_start0
  clear hb
  obtain ⟨_c0, _c1, _c2, _c3, _c4, _c5, _c6, _c7, _c8, _c9, _c10, _c11, _c12, _c13, _c14, _hB, _hz⟩ := id hS1
  go_wp2_with fail
  refine (spec_vv _ _ _ _).mono ?_
  rintro e w2 ⟨rfl, hb⟩
  have hS2 := vn_keep hb hS1
  clear hb
  obtain ⟨_c0, _c1, _c2, _c3, _c4, _c5, _c6, _c7, _c8, _c9, _c10, _c11, _c12, _c13, _c14, _hB, _hz⟩ := id hS2
  clear hS1 hS2
  go_wp2_with fail
  refine wp_loop_rounds 4 ?_
  rw [rounds_succ]; go_wp2; go_region; go_wp2
  rw [rounds_succ]; go_wp2; go_region; go_wp2
  rw [rounds_succ]; go_wp2; go_region; go_wp2
  rw [rounds_succ]; go_wp2
  refine bodyPost_ret (v := .tuple #[.agg #[.int .i64 a, .int .i64 y, .int .i64 c], .int .i64 0]) (by simp [results, Try.results15, go_sem, _c0, _c1, _c2, _c3, _c4, _c5, _c6, _c7, _c8]) rfl ⟨rfl, ?_⟩
  exact (((_hB.setCell (by simp) _).setCell (by simp) _).setCell (by simp) _ |>.setCell (by simp; omega) _ |>.setCell (by simp; omega) _ |>.setCell (by simp; omega) _).drew.drew.drew


set_option maxHeartbeats 1000000 in
theorem spec_min_g110 (a b c x y z : Int) (w : World) (h : vvB a b c = true) (h' : vvB x y z = true) (h1 : a ≤ x) (h2 : b ≤ y) (h3 : z < c) :
    Calls Try.prog 15 #[.agg #[.int .i64 a, .int .i64 b, .int .i64 c], .agg #[.int .i64 x, .int .i64 y, .int .i64 z]] w fun e w' => e = .returned (.tuple #[.agg #[.int .i64 a, .int .i64 b, .int .i64 z], .int .i64 0]) ∧ Below w.heap.size w w' := by
  go_enter Try.func15, Try.ntmps15
  go_wp2_with fail
  refine (spec_vv _ _ _ _).mono ?_
  rintro e w1 ⟨rfl, hb⟩
  have hS1 := vn_keep hb vn_start0
  clear hb
  obtain ⟨_c0, _c1, _c2, _c3, _c4, _c5, _c6, _c7, _c8, _c9, _c10, _c11, _c12, _c13, _c14, _hB, _hz⟩ := id hS1
  go_wp2_with fail
  refine (spec_vv _ _ _ _).mono ?_
  rintro e w2 ⟨rfl, hb⟩
  have hS2 := vn_keep hb hS1
  clear hb
  obtain ⟨_c0, _c1, _c2, _c3, _c4, _c5, _c6, _c7, _c8, _c9, _c10, _c11, _c12, _c13, _c14, _hB, _hz⟩ := id hS2
  clear hS1 hS2
  go_wp2_with fail
  refine wp_loop_rounds 4 ?_
  rw [rounds_succ]; go_wp2; go_region; go_wp2
  rw [rounds_succ]; go_wp2; go_region; go_wp2
  rw [rounds_succ]; go_wp2; go_region; go_wp2
  rw [rounds_succ]; go_wp2
  refine bodyPost_ret (v := .tuple #[.agg #[.int .i64 a, .int .i64 b, .int .i64 z], .int .i64 0]) (by simp [results, Try.results15, go_sem, _c0, _c1, _c2, _c3, _c4, _c5, _c6, _c7, _c8]) rfl ⟨rfl, ?_⟩
  exact (((_hB.setCell (by simp) _).setCell (by simp) _).setCell (by simp) _ |>.setCell (by simp; omega) _ |>.setCell (by simp; omega) _ |>.setCell (by simp; omega) _).drew.drew.drew


set_option maxHeartbeats 1000000 in
theorem spec_min_g111 (a b c x y z : Int) (w : World) (h : vvB a b c = true) (h' : vvB x y z = true) (h1 : a ≤ x) (h2 : b ≤ y) (h3 : c ≤ z) :
    Calls Try.prog 15 #[.agg #[.int .i64 a, .int .i64 b, .int .i64 c], .agg #[.int .i64 x, .int .i64 y, .int .i64 z]] w fun e w' => e = .returned (.tuple #[.agg #[.int .i64 a, .int .i64 b, .int .i64 c], .int .i64 0]) ∧ Below w.heap.size w w' := by
  go_enter Try.func15, Try.ntmps15
  go_wp2_with fail
  refine (spec_vv _ _ _ _).mono ?_
  rintro e w1 ⟨rfl, hb⟩
  have hS1 := vn_keep hb vn_start0
  clear hb
  obtain ⟨_c0, _c1, _c2, _c3, _c4, _c5, _c6, _c7, _c8, _c9, _c10, _c11, _c12, _c13, _c14, _hB, _hz⟩ := id hS1
  go_wp2_with fail
  refine (spec_vv _ _ _ _).mono ?_
  rintro e w2 ⟨rfl, hb⟩
  have hS2 := vn_keep hb hS1
  clear hb
  obtain ⟨_c0, _c1, _c2, _c3, _c4, _c5, _c6, _c7, _c8, _c9, _c10, _c11, _c12, _c13, _c14, _hB, _hz⟩ := id hS2
  clear hS1 hS2
  go_wp2_with fail
  refine wp_loop_rounds 4 ?_
  rw [rounds_succ]; go_wp2; go_region; go_wp2
  rw [rounds_succ]; go_wp2; go_region; go_wp2
  rw [rounds_succ]; go_wp2; go_region; go_wp2
  rw [rounds_succ]; go_wp2
  refine bodyPost_ret (v := .tuple #[.agg #[.int .i64 a, .int .i64 b, .int .i64 c], .int .i64 0]) (by simp [results, Try.results15, go_sem, _c0, _c1, _c2, _c3, _c4, _c5, _c6, _c7, _c8]) rfl ⟨rfl, ?_⟩
  exact (((_hB.setCell (by simp) _).setCell (by simp) _).setCell (by simp) _ |>.setCell (by simp; omega) _ |>.setCell (by simp; omega) _ |>.setCell (by simp; omega) _).drew.drew.drew


theorem spec_min_good (a b c x y z m n o : Int) (w : World) (h : vvB a b c = true) (h' : vvB x y z = true) (h1 : (x < a ∧ m = x) ∨ (a ≤ x ∧ m = a)) (h2 : (y < b ∧ n = y) ∨ (b ≤ y ∧ n = b)) (h3 : (z < c ∧ o = z) ∨ (c ≤ z ∧ o = c)) :
    Calls Try.prog 15 #[.agg #[.int .i64 a, .int .i64 b, .int .i64 c], .agg #[.int .i64 x, .int .i64 y, .int .i64 z]] w fun e w' => e = .returned (.tuple #[.agg #[.int .i64 m, .int .i64 n, .int .i64 o], .int .i64 0]) ∧ Below w.heap.size w w' := by
  rcases h1 with ⟨h1, k1⟩ | ⟨h1, k1⟩ <;> rcases h2 with ⟨h2, k2⟩ | ⟨h2, k2⟩ <;> rcases h3 with ⟨h3, k3⟩ | ⟨h3, k3⟩ <;> rw [k1, k2, k3]
  · exact spec_min_g000 a b c x y z w h h' h1 h2 h3
  · exact spec_min_g001 a b c x y z w h h' h1 h2 h3
  · exact spec_min_g010 a b c x y z w h h' h1 h2 h3
  · exact spec_min_g011 a b c x y z w h h' h1 h2 h3
  · exact spec_min_g100 a b c x y z w h h' h1 h2 h3
  · exact spec_min_g101 a b c x y z w h h' h1 h2 h3
  · exact spec_min_g110 a b c x y z w h h' h1 h2 h3
  · exact spec_min_g111 a b c x y z w h h' h1 h2 h3
end Go.Proofs.Ytcappnoghakdbah

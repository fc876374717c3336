/- The law of ReadDot. -/
import Derived.Test.YtfglhjnfhdalnaaRows
import Derived.WalkKit
import Derived.WalkSpells
import Derived.WalkLawsBesides
import Derived.Deep.QuietTactic
import Derived.BigQuiet
import Derived.Deep.RegionHeld3
import Derived.Test.YtfglhjnfhdalnaaRi
import Derived.LoopN
namespace Go.Proofs.Ytfglhjnfhdalnaa
open Go.RowKit
set_option linter.unusedSimpArgs false
set_option linter.unusedVariables false

set_option maxHeartbeats 400000 in
theorem eqDot_same (x y : Int) (w : World) :
    Calls Try.prog 9 #[.agg #[.int .i64 x, .int .i64 y], .agg #[.int .i64 x, .int .i64 y]] w fun e w' => e = .returned (.bool true) ∧ Below w.heap.size w w' := by
  go_enter Try.func9, Try.ntmps9
  go_wp2
  go_ret
  refine ⟨rfl, ?_⟩
  repeat (first | exact Below.refl _ _ | refine Below.drew ?_ | refine below_drewN ?_ _ | refine Below.alloc ?_ (by first | (simp; done) | (simp; omega)) _ | refine Below.setCell ?_ (by first | (simp; done) | (simp; omega)) _)
set_option maxHeartbeats 2000000 in
theorem law_readDot (s : ByteArray) (w : World) (hl : s.size ≤ 9223372036854775807) :
    Calls Try.prog 3 #[.string s] w fun e w' => e = .returned (.bool true) ∧ Below w.heap.size w w' := by
  by_cases hb : 1048576 < s.size
  · have hb' : (1048576 : Int) < (s.size : Int) := by omega
    go_enter Try.func3, Try.ntmps3
    go_wp2
    go_ret
    exact ⟨rfl, Below.refl _ _⟩
  have hb' : ¬ (1048576 : Int) < (s.size : Int) := by omega
  have hs : s.size ≤ 1048576 := by omega
  obtain ⟨p, n, code, hA⟩ := rda_of s
  clear hb
  go_enter Try.func3, Try.ntmps3
  go_wp2_with fail
  refine (specRead_any s p n code hA _ hs).mono ?_
  rintro e w1 ⟨rfl, hb⟩
  have HB : Hid (Below w.heap.size w w1) := hb
  clear hb
  go_wp2_with fail
  refine (implRead_any s p n code hA _ hs).mono ?_
  rintro e w2 ⟨rfl, hb⟩
  have d0 := cell_next hb (b := w1.heap.size) (o := 0) (v := .int .i64 p) (by go_simp) (by simp)
  have d1 := cell_next hb (b := w1.heap.size) (o := 1) (v := .int .i64 n) (by go_simp) (by simp)
  have hz : w1.heap.size < w2.heap.size := by have := hb.size; simp at this; omega
  replace HB := bel_next (bel_next HB (bel_alloc _ _)) hb
  have d0' : ∀ o, (w2.alloc o).cell? ⟨w1.heap.size, 0, none⟩ = some (.int .i64 p) := fun o => box_a d0 hz
  have d1' : ∀ o, (w2.alloc o).cell? ⟨w1.heap.size, 1, none⟩ = some (.int .i64 n) := fun o => box_a d1 hz
  clear hb hA d0 d1
  go_wp2_with fail
  refine (eqDot_same p n _).mono ?_
  rintro e w3 ⟨rfl, hb⟩
  replace HB := bel_next (bel_next HB (bel_alloc _ _)) hb
  clear hb d0' d1'
  go_wp2
  go_ret
  exact ⟨rfl, HB.out⟩
end Go.Proofs.Ytfglhjnfhdalnaa

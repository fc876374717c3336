/- VvMax and VvMin of the program and of the specification answer alike. -/
import Derived.Test.YtcappnoghakdbahRows
import Derived.Test.YtcappnoghakdbahVv
import Derived.Test.YtcappnoghakdbahMm
import Derived.Test.YtcappnoghakdbahMn
import Derived.WalkKit
import Derived.WalkSpells
import Derived.WalkLawsBesides
import Derived.Deep.QuietTactic
import Derived.BigQuiet
import Derived.Deep.RegionHeld3
import Derived.LoopN
import Derived.Deep.DeepCutAuto
namespace Go.Proofs.Ytcappnoghakdbah
open Go.RowKit
set_option linter.unusedSimpArgs false
set_option linter.unusedVariables false


theorem bcell3 {W w1 : World} (hb : Below W.heap.size W w1) : (∀ b o, b < W.heap.size → w1.cell? ⟨b, o, none⟩ = W.cell? ⟨b, o, none⟩) ∧ (∀ b o, b < W.heap.size → w1.frozen? ⟨b, o, none⟩ = W.frozen? ⟨b, o, none⟩) ∧ (∀ b, b < W.heap.size → b < w1.heap.size) :=
  ⟨fun b o h => hb.cell (p := ⟨b, o, none⟩) h, fun b o h => hb.frozen (p := ⟨b, o, none⟩) h, fun b h => Nat.lt_of_lt_of_le h hb.size⟩
def mxI (a b : Int) : Int := if a < b then b else a
def mnI (a b : Int) : Int := if b < a then b else a
def twoB (a b c x y z : Int) : Bool := vvB a b c && vvB x y z
def maxV (t : Bool) (a x : Int) : Int := if t = true then mxI a x else 0
def minV (t : Bool) (a x : Int) : Int := if t = true then mnI a x else 0
def okC (t : Bool) : Int := if t = true then 0 else 1
theorem mx_or (a x : Int) : (a < x ∧ mxI a x = x) ∨ (x ≤ a ∧ mxI a x = a) := by unfold mxI; by_cases h : a < x <;> simp [h]; omega
theorem mn_or (a x : Int) : (x < a ∧ mnI a x = x) ∨ (a ≤ x ∧ mnI a x = a) := by unfold mnI; by_cases h : x < a <;> simp [h]; omega


theorem spec_max (a b c x y z : Int) (w : World) :
    Calls Try.prog 12 #[.agg #[.int .i64 a, .int .i64 b, .int .i64 c], .agg #[.int .i64 x, .int .i64 y, .int .i64 z]] w fun e w' => e = .returned (.tuple #[.agg #[.int .i64 (maxV (twoB a b c x y z) a x), .int .i64 (maxV (twoB a b c x y z) b y), .int .i64 (maxV (twoB a b c x y z) c z)], .int .i64 (okC (twoB a b c x y z))]) ∧ Below w.heap.size w w' := by
  cases h1 : vvB a b c
  · exact (spec_max_bad1 a b c x y z w h1).mono fun e w' ⟨he, hb⟩ => ⟨he.trans (ret_vint (by simp [maxV, twoB, h1]) (by simp [maxV, twoB, h1]) (by simp [maxV, twoB, h1]) (by simp [okC, twoB, h1])), hb⟩
  · cases h2 : vvB x y z
    · exact (spec_max_bad2 a b c x y z w h1 h2).mono fun e w' ⟨he, hb⟩ => ⟨he.trans (ret_vint (by simp [maxV, twoB, h2]) (by simp [maxV, twoB, h2]) (by simp [maxV, twoB, h2]) (by simp [okC, twoB, h2])), hb⟩
    · exact (spec_max_good a b c x y z _ _ _ w h1 h2 (mx_or a x) (mx_or b y) (mx_or c z)).mono fun e w' ⟨he, hb⟩ => ⟨he.trans (ret_vint (by simp [maxV, twoB, h1, h2]) (by simp [maxV, twoB, h1, h2]) (by simp [maxV, twoB, h1, h2]) (by simp [okC, twoB, h1, h2])), hb⟩


theorem impl_max (a b c x y z : Int) (w : World) :
    Calls Try.prog 13 #[.agg #[.int .i64 a, .int .i64 b, .int .i64 c], .agg #[.int .i64 x, .int .i64 y, .int .i64 z]] w fun e w' => e = .returned (.tuple #[.agg #[.int .i64 (maxV (twoB a b c x y z) a x), .int .i64 (maxV (twoB a b c x y z) b y), .int .i64 (maxV (twoB a b c x y z) c z)], .int .i64 (okC (twoB a b c x y z))]) ∧ Below w.heap.size w w' := by
  cases h1 : vvB a b c
  · exact (impl_max_bad1 a b c x y z w h1).mono fun e w' ⟨he, hb⟩ => ⟨he.trans (ret_vint (by simp [maxV, twoB, h1]) (by simp [maxV, twoB, h1]) (by simp [maxV, twoB, h1]) (by simp [okC, twoB, h1])), hb⟩
  · cases h2 : vvB x y z
    · exact (impl_max_bad2 a b c x y z w h1 h2).mono fun e w' ⟨he, hb⟩ => ⟨he.trans (ret_vint (by simp [maxV, twoB, h2]) (by simp [maxV, twoB, h2]) (by simp [maxV, twoB, h2]) (by simp [okC, twoB, h2])), hb⟩
    · exact (impl_max_good a b c x y z _ _ _ w h1 h2 (mx_or a x) (mx_or b y) (mx_or c z)).mono fun e w' ⟨he, hb⟩ => ⟨he.trans (ret_vint (by simp [maxV, twoB, h1, h2]) (by simp [maxV, twoB, h1, h2]) (by simp [maxV, twoB, h1, h2]) (by simp [okC, twoB, h1, h2])), hb⟩


theorem spec_min (a b c x y z : Int) (w : World) :
    Calls Try.prog 15 #[.agg #[.int .i64 a, .int .i64 b, .int .i64 c], .agg #[.int .i64 x, .int .i64 y, .int .i64 z]] w fun e w' => e = .returned (.tuple #[.agg #[.int .i64 (minV (twoB a b c x y z) a x), .int .i64 (minV (twoB a b c x y z) b y), .int .i64 (minV (twoB a b c x y z) c z)], .int .i64 (okC (twoB a b c x y z))]) ∧ Below w.heap.size w w' := by
  cases h1 : vvB a b c
  · exact (spec_min_bad1 a b c x y z w h1).mono fun e w' ⟨he, hb⟩ => ⟨he.trans (ret_vint (by simp [minV, twoB, h1]) (by simp [minV, twoB, h1]) (by simp [minV, twoB, h1]) (by simp [okC, twoB, h1])), hb⟩
  · cases h2 : vvB x y z
    · exact (spec_min_bad2 a b c x y z w h1 h2).mono fun e w' ⟨he, hb⟩ => ⟨he.trans (ret_vint (by simp [minV, twoB, h2]) (by simp [minV, twoB, h2]) (by simp [minV, twoB, h2]) (by simp [okC, twoB, h2])), hb⟩
    · exact (spec_min_good a b c x y z _ _ _ w h1 h2 (mn_or a x) (mn_or b y) (mn_or c z)).mono fun e w' ⟨he, hb⟩ => ⟨he.trans (ret_vint (by simp [minV, twoB, h1, h2]) (by simp [minV, twoB, h1, h2]) (by simp [minV, twoB, h1, h2]) (by simp [okC, twoB, h1, h2])), hb⟩


theorem impl_min (a b c x y z : Int) (w : World) :
    Calls Try.prog 16 #[.agg #[.int .i64 a, .int .i64 b, .int .i64 c], .agg #[.int .i64 x, .int .i64 y, .int .i64 z]] w fun e w' => e = .returned (.tuple #[.agg #[.int .i64 (minV (twoB a b c x y z) a x), .int .i64 (minV (twoB a b c x y z) b y), .int .i64 (minV (twoB a b c x y z) c z)], .int .i64 (okC (twoB a b c x y z))]) ∧ Below w.heap.size w w' := by
  cases h1 : vvB a b c
  · exact (impl_min_bad1 a b c x y z w h1).mono fun e w' ⟨he, hb⟩ => ⟨he.trans (ret_vint (by simp [minV, twoB, h1]) (by simp [minV, twoB, h1]) (by simp [minV, twoB, h1]) (by simp [okC, twoB, h1])), hb⟩
  · cases h2 : vvB x y z
    · exact (impl_min_bad2 a b c x y z w h1 h2).mono fun e w' ⟨he, hb⟩ => ⟨he.trans (ret_vint (by simp [minV, twoB, h2]) (by simp [minV, twoB, h2]) (by simp [minV, twoB, h2]) (by simp [okC, twoB, h2])), hb⟩
    · exact (impl_min_good a b c x y z _ _ _ w h1 h2 (mn_or a x) (mn_or b y) (mn_or c z)).mono fun e w' ⟨he, hb⟩ => ⟨he.trans (ret_vint (by simp [minV, twoB, h1, h2]) (by simp [minV, twoB, h1, h2]) (by simp [minV, twoB, h1, h2]) (by simp [okC, twoB, h1, h2])), hb⟩


theorem lv_keep {a b c x y z : Int} {w W W' : World} (hb : Below W.heap.size W W') (h : W.cell? ⟨w.heap.size, 0, none⟩ = some (.int .i64 a) ∧ W.cell? ⟨w.heap.size, 1, none⟩ = some (.int .i64 b) ∧ W.cell? ⟨w.heap.size, 2, none⟩ = some (.int .i64 c) ∧ W.cell? ⟨w.heap.size + 1, 0, none⟩ = some (.int .i64 x) ∧ W.cell? ⟨w.heap.size + 1, 1, none⟩ = some (.int .i64 y) ∧ W.cell? ⟨w.heap.size + 1, 2, none⟩ = some (.int .i64 z) ∧ Below w.heap.size w W ∧ w.heap.size + 2 ≤ W.heap.size) : W'.cell? ⟨w.heap.size, 0, none⟩ = some (.int .i64 a) ∧ W'.cell? ⟨w.heap.size, 1, none⟩ = some (.int .i64 b) ∧ W'.cell? ⟨w.heap.size, 2, none⟩ = some (.int .i64 c) ∧ W'.cell? ⟨w.heap.size + 1, 0, none⟩ = some (.int .i64 x) ∧ W'.cell? ⟨w.heap.size + 1, 1, none⟩ = some (.int .i64 y) ∧ W'.cell? ⟨w.heap.size + 1, 2, none⟩ = some (.int .i64 z) ∧ Below w.heap.size w W' ∧ w.heap.size + 2 ≤ W'.heap.size := by
  obtain ⟨c0, c1, c2, c3, c4, c5, hB, hz⟩ := h
  have hq := hb.size
  exact ⟨cell_next hb c0 (by omega), cell_next hb c1 (by omega), cell_next hb c2 (by omega), cell_next hb c3 (by omega), cell_next hb c4 (by omega), cell_next hb c5 (by omega), hB.trans (hb.mono (by omega)), by omega⟩
theorem lv_alloc {a b c x y z : Int} {w W : World} {ob : Obj} (h : W.cell? ⟨w.heap.size, 0, none⟩ = some (.int .i64 a) ∧ W.cell? ⟨w.heap.size, 1, none⟩ = some (.int .i64 b) ∧ W.cell? ⟨w.heap.size, 2, none⟩ = some (.int .i64 c) ∧ W.cell? ⟨w.heap.size + 1, 0, none⟩ = some (.int .i64 x) ∧ W.cell? ⟨w.heap.size + 1, 1, none⟩ = some (.int .i64 y) ∧ W.cell? ⟨w.heap.size + 1, 2, none⟩ = some (.int .i64 z) ∧ Below w.heap.size w W ∧ w.heap.size + 2 ≤ W.heap.size) : (W.alloc ob).cell? ⟨w.heap.size, 0, none⟩ = some (.int .i64 a) ∧ (W.alloc ob).cell? ⟨w.heap.size, 1, none⟩ = some (.int .i64 b) ∧ (W.alloc ob).cell? ⟨w.heap.size, 2, none⟩ = some (.int .i64 c) ∧ (W.alloc ob).cell? ⟨w.heap.size + 1, 0, none⟩ = some (.int .i64 x) ∧ (W.alloc ob).cell? ⟨w.heap.size + 1, 1, none⟩ = some (.int .i64 y) ∧ (W.alloc ob).cell? ⟨w.heap.size + 1, 2, none⟩ = some (.int .i64 z) ∧ Below w.heap.size w (W.alloc ob) ∧ w.heap.size + 2 ≤ (W.alloc ob).heap.size := lv_keep ((Below.refl _ _).alloc (Nat.le_refl _) _) h
theorem lv_drew {a b c x y z : Int} {w W : World} (h : W.cell? ⟨w.heap.size, 0, none⟩ = some (.int .i64 a) ∧ W.cell? ⟨w.heap.size, 1, none⟩ = some (.int .i64 b) ∧ W.cell? ⟨w.heap.size, 2, none⟩ = some (.int .i64 c) ∧ W.cell? ⟨w.heap.size + 1, 0, none⟩ = some (.int .i64 x) ∧ W.cell? ⟨w.heap.size + 1, 1, none⟩ = some (.int .i64 y) ∧ W.cell? ⟨w.heap.size + 1, 2, none⟩ = some (.int .i64 z) ∧ Below w.heap.size w W ∧ w.heap.size + 2 ≤ W.heap.size) : W.drew.cell? ⟨w.heap.size, 0, none⟩ = some (.int .i64 a) ∧ W.drew.cell? ⟨w.heap.size, 1, none⟩ = some (.int .i64 b) ∧ W.drew.cell? ⟨w.heap.size, 2, none⟩ = some (.int .i64 c) ∧ W.drew.cell? ⟨w.heap.size + 1, 0, none⟩ = some (.int .i64 x) ∧ W.drew.cell? ⟨w.heap.size + 1, 1, none⟩ = some (.int .i64 y) ∧ W.drew.cell? ⟨w.heap.size + 1, 2, none⟩ = some (.int .i64 z) ∧ Below w.heap.size w W.drew ∧ w.heap.size + 2 ≤ W.drew.heap.size := by
  obtain ⟨c0, c1, c2, c3, c4, c5, hB, hz⟩ := h
  exact ⟨c0, c1, c2, c3, c4, c5, hB.drew, hz⟩
theorem lv_below {a b c x y z : Int} {w W : World} (h : W.cell? ⟨w.heap.size, 0, none⟩ = some (.int .i64 a) ∧ W.cell? ⟨w.heap.size, 1, none⟩ = some (.int .i64 b) ∧ W.cell? ⟨w.heap.size, 2, none⟩ = some (.int .i64 c) ∧ W.cell? ⟨w.heap.size + 1, 0, none⟩ = some (.int .i64 x) ∧ W.cell? ⟨w.heap.size + 1, 1, none⟩ = some (.int .i64 y) ∧ W.cell? ⟨w.heap.size + 1, 2, none⟩ = some (.int .i64 z) ∧ Below w.heap.size w W ∧ w.heap.size + 2 ≤ W.heap.size) : Below w.heap.size w W := by
  obtain ⟨c0, c1, c2, c3, c4, c5, hB, hz⟩ := h
  exact hB
theorem lv_size {a b c x y z : Int} {w W : World} (h : W.cell? ⟨w.heap.size, 0, none⟩ = some (.int .i64 a) ∧ W.cell? ⟨w.heap.size, 1, none⟩ = some (.int .i64 b) ∧ W.cell? ⟨w.heap.size, 2, none⟩ = some (.int .i64 c) ∧ W.cell? ⟨w.heap.size + 1, 0, none⟩ = some (.int .i64 x) ∧ W.cell? ⟨w.heap.size + 1, 1, none⟩ = some (.int .i64 y) ∧ W.cell? ⟨w.heap.size + 1, 2, none⟩ = some (.int .i64 z) ∧ Below w.heap.size w W ∧ w.heap.size + 2 ≤ W.heap.size) : w.heap.size + 2 ≤ W.heap.size := by
  obtain ⟨c0, c1, c2, c3, c4, c5, hB, hz⟩ := h
  exact hz

theorem lv_set {a b c x y z : Int} {w W : World} {t j : Nat} {u : Value} (h : W.cell? ⟨w.heap.size, 0, none⟩ = some (.int .i64 a) ∧ W.cell? ⟨w.heap.size, 1, none⟩ = some (.int .i64 b) ∧ W.cell? ⟨w.heap.size, 2, none⟩ = some (.int .i64 c) ∧ W.cell? ⟨w.heap.size + 1, 0, none⟩ = some (.int .i64 x) ∧ W.cell? ⟨w.heap.size + 1, 1, none⟩ = some (.int .i64 y) ∧ W.cell? ⟨w.heap.size + 1, 2, none⟩ = some (.int .i64 z) ∧ Below w.heap.size w W ∧ w.heap.size + 2 ≤ W.heap.size) (ht : w.heap.size + 2 ≤ t) : (W.setCell ⟨t, j, none⟩ u).cell? ⟨w.heap.size, 0, none⟩ = some (.int .i64 a) ∧ (W.setCell ⟨t, j, none⟩ u).cell? ⟨w.heap.size, 1, none⟩ = some (.int .i64 b) ∧ (W.setCell ⟨t, j, none⟩ u).cell? ⟨w.heap.size, 2, none⟩ = some (.int .i64 c) ∧ (W.setCell ⟨t, j, none⟩ u).cell? ⟨w.heap.size + 1, 0, none⟩ = some (.int .i64 x) ∧ (W.setCell ⟨t, j, none⟩ u).cell? ⟨w.heap.size + 1, 1, none⟩ = some (.int .i64 y) ∧ (W.setCell ⟨t, j, none⟩ u).cell? ⟨w.heap.size + 1, 2, none⟩ = some (.int .i64 z) ∧ Below w.heap.size w (W.setCell ⟨t, j, none⟩ u) ∧ w.heap.size + 2 ≤ (W.setCell ⟨t, j, none⟩ u).heap.size := by
  obtain ⟨c0, c1, c2, c3, c4, c5, hB, hz⟩ := h
  exact ⟨cell_set c0 (by omega), cell_set c1 (by omega), cell_set c2 (by omega), cell_set c3 (by omega), cell_set c4 (by omega), cell_set c5 (by omega), hB.setCell (by simp; omega) _, by simpa [World.setCell] using hz⟩

theorem lv_start {a b c x y z : Int} {w : World} : ((w.alloc (.cells #[.int .i64 a, .int .i64 b, .int .i64 c] 22)).alloc (.cells #[.int .i64 x, .int .i64 y, .int .i64 z] 22)).drew.cell? ⟨w.heap.size, 0, none⟩ = some (.int .i64 a) ∧ ((w.alloc (.cells #[.int .i64 a, .int .i64 b, .int .i64 c] 22)).alloc (.cells #[.int .i64 x, .int .i64 y, .int .i64 z] 22)).drew.cell? ⟨w.heap.size, 1, none⟩ = some (.int .i64 b) ∧ ((w.alloc (.cells #[.int .i64 a, .int .i64 b, .int .i64 c] 22)).alloc (.cells #[.int .i64 x, .int .i64 y, .int .i64 z] 22)).drew.cell? ⟨w.heap.size, 2, none⟩ = some (.int .i64 c) ∧ ((w.alloc (.cells #[.int .i64 a, .int .i64 b, .int .i64 c] 22)).alloc (.cells #[.int .i64 x, .int .i64 y, .int .i64 z] 22)).drew.cell? ⟨w.heap.size + 1, 0, none⟩ = some (.int .i64 x) ∧ ((w.alloc (.cells #[.int .i64 a, .int .i64 b, .int .i64 c] 22)).alloc (.cells #[.int .i64 x, .int .i64 y, .int .i64 z] 22)).drew.cell? ⟨w.heap.size + 1, 1, none⟩ = some (.int .i64 y) ∧ ((w.alloc (.cells #[.int .i64 a, .int .i64 b, .int .i64 c] 22)).alloc (.cells #[.int .i64 x, .int .i64 y, .int .i64 z] 22)).drew.cell? ⟨w.heap.size + 1, 2, none⟩ = some (.int .i64 z) ∧ Below w.heap.size w ((w.alloc (.cells #[.int .i64 a, .int .i64 b, .int .i64 c] 22)).alloc (.cells #[.int .i64 x, .int .i64 y, .int .i64 z] 22)).drew ∧ w.heap.size + 2 ≤ ((w.alloc (.cells #[.int .i64 a, .int .i64 b, .int .i64 c] 22)).alloc (.cells #[.int .i64 x, .int .i64 y, .int .i64 z] 22)).drew.heap.size := by
  refine ⟨?_, ?_, ?_, ?_, ?_, ?_, (((Below.refl _ _).alloc (by simp) _).alloc (by simp) _).drew, ?_⟩
  all_goals first | (go_simp; done) | (simp; done) | (simp; omega)
theorem lv_start0 {a b c x y z : Int} {w : World} : ((w.alloc (.cells #[.int .i64 a, .int .i64 b, .int .i64 c] 22)).alloc (.cells #[.int .i64 x, .int .i64 y, .int .i64 z] 22)).cell? ⟨w.heap.size, 0, none⟩ = some (.int .i64 a) ∧ ((w.alloc (.cells #[.int .i64 a, .int .i64 b, .int .i64 c] 22)).alloc (.cells #[.int .i64 x, .int .i64 y, .int .i64 z] 22)).cell? ⟨w.heap.size, 1, none⟩ = some (.int .i64 b) ∧ ((w.alloc (.cells #[.int .i64 a, .int .i64 b, .int .i64 c] 22)).alloc (.cells #[.int .i64 x, .int .i64 y, .int .i64 z] 22)).cell? ⟨w.heap.size, 2, none⟩ = some (.int .i64 c) ∧ ((w.alloc (.cells #[.int .i64 a, .int .i64 b, .int .i64 c] 22)).alloc (.cells #[.int .i64 x, .int .i64 y, .int .i64 z] 22)).cell? ⟨w.heap.size + 1, 0, none⟩ = some (.int .i64 x) ∧ ((w.alloc (.cells #[.int .i64 a, .int .i64 b, .int .i64 c] 22)).alloc (.cells #[.int .i64 x, .int .i64 y, .int .i64 z] 22)).cell? ⟨w.heap.size + 1, 1, none⟩ = some (.int .i64 y) ∧ ((w.alloc (.cells #[.int .i64 a, .int .i64 b, .int .i64 c] 22)).alloc (.cells #[.int .i64 x, .int .i64 y, .int .i64 z] 22)).cell? ⟨w.heap.size + 1, 2, none⟩ = some (.int .i64 z) ∧ Below w.heap.size w ((w.alloc (.cells #[.int .i64 a, .int .i64 b, .int .i64 c] 22)).alloc (.cells #[.int .i64 x, .int .i64 y, .int .i64 z] 22)) ∧ w.heap.size + 2 ≤ ((w.alloc (.cells #[.int .i64 a, .int .i64 b, .int .i64 c] 22)).alloc (.cells #[.int .i64 x, .int .i64 y, .int .i64 z] 22)).heap.size := by
  refine ⟨?_, ?_, ?_, ?_, ?_, ?_, (((Below.refl _ _).alloc (by simp) _).alloc (by simp) _), ?_⟩
  all_goals first | (go_simp; done) | (simp; done) | (simp; omega)


theorem lg_keep {g : Nat} {a b c x y z m n o : Int} {w W W' : World} (hb : Below W.heap.size W W') (h : W.cell? ⟨w.heap.size, 0, none⟩ = some (.int .i64 a) ∧ W.cell? ⟨w.heap.size, 1, none⟩ = some (.int .i64 b) ∧ W.cell? ⟨w.heap.size, 2, none⟩ = some (.int .i64 c) ∧ W.cell? ⟨w.heap.size + 1, 0, none⟩ = some (.int .i64 x) ∧ W.cell? ⟨w.heap.size + 1, 1, none⟩ = some (.int .i64 y) ∧ W.cell? ⟨w.heap.size + 1, 2, none⟩ = some (.int .i64 z) ∧ W.cell? ⟨g, 0, none⟩ = some (.int .i64 m) ∧ W.cell? ⟨g, 1, none⟩ = some (.int .i64 n) ∧ W.cell? ⟨g, 2, none⟩ = some (.int .i64 o) ∧ g < W.heap.size ∧ Below w.heap.size w W ∧ w.heap.size + 2 ≤ W.heap.size) : W'.cell? ⟨w.heap.size, 0, none⟩ = some (.int .i64 a) ∧ W'.cell? ⟨w.heap.size, 1, none⟩ = some (.int .i64 b) ∧ W'.cell? ⟨w.heap.size, 2, none⟩ = some (.int .i64 c) ∧ W'.cell? ⟨w.heap.size + 1, 0, none⟩ = some (.int .i64 x) ∧ W'.cell? ⟨w.heap.size + 1, 1, none⟩ = some (.int .i64 y) ∧ W'.cell? ⟨w.heap.size + 1, 2, none⟩ = some (.int .i64 z) ∧ W'.cell? ⟨g, 0, none⟩ = some (.int .i64 m) ∧ W'.cell? ⟨g, 1, none⟩ = some (.int .i64 n) ∧ W'.cell? ⟨g, 2, none⟩ = some (.int .i64 o) ∧ g < W'.heap.size ∧ Below w.heap.size w W' ∧ w.heap.size + 2 ≤ W'.heap.size := by
  obtain ⟨c0, c1, c2, c3, c4, c5, c6, c7, c8, g0, hB, hz⟩ := h
  have hq := hb.size
  exact ⟨cell_next hb c0 (by omega), cell_next hb c1 (by omega), cell_next hb c2 (by omega), cell_next hb c3 (by omega), cell_next hb c4 (by omega), cell_next hb c5 (by omega), cell_next hb c6 (by omega), cell_next hb c7 (by omega), cell_next hb c8 (by omega), by omega, hB.trans (hb.mono (by omega)), by omega⟩
theorem lg_alloc {g : Nat} {a b c x y z m n o : Int} {w W : World} {ob : Obj} (h : W.cell? ⟨w.heap.size, 0, none⟩ = some (.int .i64 a) ∧ W.cell? ⟨w.heap.size, 1, none⟩ = some (.int .i64 b) ∧ W.cell? ⟨w.heap.size, 2, none⟩ = some (.int .i64 c) ∧ W.cell? ⟨w.heap.size + 1, 0, none⟩ = some (.int .i64 x) ∧ W.cell? ⟨w.heap.size + 1, 1, none⟩ = some (.int .i64 y) ∧ W.cell? ⟨w.heap.size + 1, 2, none⟩ = some (.int .i64 z) ∧ W.cell? ⟨g, 0, none⟩ = some (.int .i64 m) ∧ W.cell? ⟨g, 1, none⟩ = some (.int .i64 n) ∧ W.cell? ⟨g, 2, none⟩ = some (.int .i64 o) ∧ g < W.heap.size ∧ Below w.heap.size w W ∧ w.heap.size + 2 ≤ W.heap.size) : (W.alloc ob).cell? ⟨w.heap.size, 0, none⟩ = some (.int .i64 a) ∧ (W.alloc ob).cell? ⟨w.heap.size, 1, none⟩ = some (.int .i64 b) ∧ (W.alloc ob).cell? ⟨w.heap.size, 2, none⟩ = some (.int .i64 c) ∧ (W.alloc ob).cell? ⟨w.heap.size + 1, 0, none⟩ = some (.int .i64 x) ∧ (W.alloc ob).cell? ⟨w.heap.size + 1, 1, none⟩ = some (.int .i64 y) ∧ (W.alloc ob).cell? ⟨w.heap.size + 1, 2, none⟩ = some (.int .i64 z) ∧ (W.alloc ob).cell? ⟨g, 0, none⟩ = some (.int .i64 m) ∧ (W.alloc ob).cell? ⟨g, 1, none⟩ = some (.int .i64 n) ∧ (W.alloc ob).cell? ⟨g, 2, none⟩ = some (.int .i64 o) ∧ g < (W.alloc ob).heap.size ∧ Below w.heap.size w (W.alloc ob) ∧ w.heap.size + 2 ≤ (W.alloc ob).heap.size := lg_keep ((Below.refl _ _).alloc (Nat.le_refl _) _) h
theorem lg_drew {g : Nat} {a b c x y z m n o : Int} {w W : World} (h : W.cell? ⟨w.heap.size, 0, none⟩ = some (.int .i64 a) ∧ W.cell? ⟨w.heap.size, 1, none⟩ = some (.int .i64 b) ∧ W.cell? ⟨w.heap.size, 2, none⟩ = some (.int .i64 c) ∧ W.cell? ⟨w.heap.size + 1, 0, none⟩ = some (.int .i64 x) ∧ W.cell? ⟨w.heap.size + 1, 1, none⟩ = some (.int .i64 y) ∧ W.cell? ⟨w.heap.size + 1, 2, none⟩ = some (.int .i64 z) ∧ W.cell? ⟨g, 0, none⟩ = some (.int .i64 m) ∧ W.cell? ⟨g, 1, none⟩ = some (.int .i64 n) ∧ W.cell? ⟨g, 2, none⟩ = some (.int .i64 o) ∧ g < W.heap.size ∧ Below w.heap.size w W ∧ w.heap.size + 2 ≤ W.heap.size) : W.drew.cell? ⟨w.heap.size, 0, none⟩ = some (.int .i64 a) ∧ W.drew.cell? ⟨w.heap.size, 1, none⟩ = some (.int .i64 b) ∧ W.drew.cell? ⟨w.heap.size, 2, none⟩ = some (.int .i64 c) ∧ W.drew.cell? ⟨w.heap.size + 1, 0, none⟩ = some (.int .i64 x) ∧ W.drew.cell? ⟨w.heap.size + 1, 1, none⟩ = some (.int .i64 y) ∧ W.drew.cell? ⟨w.heap.size + 1, 2, none⟩ = some (.int .i64 z) ∧ W.drew.cell? ⟨g, 0, none⟩ = some (.int .i64 m) ∧ W.drew.cell? ⟨g, 1, none⟩ = some (.int .i64 n) ∧ W.drew.cell? ⟨g, 2, none⟩ = some (.int .i64 o) ∧ g < W.drew.heap.size ∧ Below w.heap.size w W.drew ∧ w.heap.size + 2 ≤ W.drew.heap.size := by
  obtain ⟨c0, c1, c2, c3, c4, c5, c6, c7, c8, g0, hB, hz⟩ := h
  exact ⟨c0, c1, c2, c3, c4, c5, c6, c7, c8, g0, hB.drew, hz⟩
theorem lg_below {g : Nat} {a b c x y z m n o : Int} {w W : World} (h : W.cell? ⟨w.heap.size, 0, none⟩ = some (.int .i64 a) ∧ W.cell? ⟨w.heap.size, 1, none⟩ = some (.int .i64 b) ∧ W.cell? ⟨w.heap.size, 2, none⟩ = some (.int .i64 c) ∧ W.cell? ⟨w.heap.size + 1, 0, none⟩ = some (.int .i64 x) ∧ W.cell? ⟨w.heap.size + 1, 1, none⟩ = some (.int .i64 y) ∧ W.cell? ⟨w.heap.size + 1, 2, none⟩ = some (.int .i64 z) ∧ W.cell? ⟨g, 0, none⟩ = some (.int .i64 m) ∧ W.cell? ⟨g, 1, none⟩ = some (.int .i64 n) ∧ W.cell? ⟨g, 2, none⟩ = some (.int .i64 o) ∧ g < W.heap.size ∧ Below w.heap.size w W ∧ w.heap.size + 2 ≤ W.heap.size) : Below w.heap.size w W := by
  obtain ⟨c0, c1, c2, c3, c4, c5, c6, c7, c8, g0, hB, hz⟩ := h
  exact hB
theorem lg_size {g : Nat} {a b c x y z m n o : Int} {w W : World} (h : W.cell? ⟨w.heap.size, 0, none⟩ = some (.int .i64 a) ∧ W.cell? ⟨w.heap.size, 1, none⟩ = some (.int .i64 b) ∧ W.cell? ⟨w.heap.size, 2, none⟩ = some (.int .i64 c) ∧ W.cell? ⟨w.heap.size + 1, 0, none⟩ = some (.int .i64 x) ∧ W.cell? ⟨w.heap.size + 1, 1, none⟩ = some (.int .i64 y) ∧ W.cell? ⟨w.heap.size + 1, 2, none⟩ = some (.int .i64 z) ∧ W.cell? ⟨g, 0, none⟩ = some (.int .i64 m) ∧ W.cell? ⟨g, 1, none⟩ = some (.int .i64 n) ∧ W.cell? ⟨g, 2, none⟩ = some (.int .i64 o) ∧ g < W.heap.size ∧ Below w.heap.size w W ∧ w.heap.size + 2 ≤ W.heap.size) : w.heap.size + 2 ≤ W.heap.size := by
  obtain ⟨c0, c1, c2, c3, c4, c5, c6, c7, c8, g0, hB, hz⟩ := h
  exact hz

theorem lg_set {g : Nat} {a b c x y z m n o : Int} {w W : World} {t j : Nat} {u : Value} (h : W.cell? ⟨w.heap.size, 0, none⟩ = some (.int .i64 a) ∧ W.cell? ⟨w.heap.size, 1, none⟩ = some (.int .i64 b) ∧ W.cell? ⟨w.heap.size, 2, none⟩ = some (.int .i64 c) ∧ W.cell? ⟨w.heap.size + 1, 0, none⟩ = some (.int .i64 x) ∧ W.cell? ⟨w.heap.size + 1, 1, none⟩ = some (.int .i64 y) ∧ W.cell? ⟨w.heap.size + 1, 2, none⟩ = some (.int .i64 z) ∧ W.cell? ⟨g, 0, none⟩ = some (.int .i64 m) ∧ W.cell? ⟨g, 1, none⟩ = some (.int .i64 n) ∧ W.cell? ⟨g, 2, none⟩ = some (.int .i64 o) ∧ g < W.heap.size ∧ Below w.heap.size w W ∧ w.heap.size + 2 ≤ W.heap.size) (ht : w.heap.size + 2 ≤ t) (hn_g : g < t) : (W.setCell ⟨t, j, none⟩ u).cell? ⟨w.heap.size, 0, none⟩ = some (.int .i64 a) ∧ (W.setCell ⟨t, j, none⟩ u).cell? ⟨w.heap.size, 1, none⟩ = some (.int .i64 b) ∧ (W.setCell ⟨t, j, none⟩ u).cell? ⟨w.heap.size, 2, none⟩ = some (.int .i64 c) ∧ (W.setCell ⟨t, j, none⟩ u).cell? ⟨w.heap.size + 1, 0, none⟩ = some (.int .i64 x) ∧ (W.setCell ⟨t, j, none⟩ u).cell? ⟨w.heap.size + 1, 1, none⟩ = some (.int .i64 y) ∧ (W.setCell ⟨t, j, none⟩ u).cell? ⟨w.heap.size + 1, 2, none⟩ = some (.int .i64 z) ∧ (W.setCell ⟨t, j, none⟩ u).cell? ⟨g, 0, none⟩ = some (.int .i64 m) ∧ (W.setCell ⟨t, j, none⟩ u).cell? ⟨g, 1, none⟩ = some (.int .i64 n) ∧ (W.setCell ⟨t, j, none⟩ u).cell? ⟨g, 2, none⟩ = some (.int .i64 o) ∧ g < (W.setCell ⟨t, j, none⟩ u).heap.size ∧ Below w.heap.size w (W.setCell ⟨t, j, none⟩ u) ∧ w.heap.size + 2 ≤ (W.setCell ⟨t, j, none⟩ u).heap.size := by
  obtain ⟨c0, c1, c2, c3, c4, c5, c6, c7, c8, g0, hB, hz⟩ := h
  exact ⟨cell_set c0 (by omega), cell_set c1 (by omega), cell_set c2 (by omega), cell_set c3 (by omega), cell_set c4 (by omega), cell_set c5 (by omega), cell_set c6 (by omega), cell_set c7 (by omega), cell_set c8 (by omega), by simpa [World.setCell] using g0, hB.setCell (by simp; omega) _, by simpa [World.setCell] using hz⟩


theorem lg_of {g : Nat} {a b c x y z m n o : Int} {w W : World} (h : W.cell? ⟨w.heap.size, 0, none⟩ = some (.int .i64 a) ∧ W.cell? ⟨w.heap.size, 1, none⟩ = some (.int .i64 b) ∧ W.cell? ⟨w.heap.size, 2, none⟩ = some (.int .i64 c) ∧ W.cell? ⟨w.heap.size + 1, 0, none⟩ = some (.int .i64 x) ∧ W.cell? ⟨w.heap.size + 1, 1, none⟩ = some (.int .i64 y) ∧ W.cell? ⟨w.heap.size + 1, 2, none⟩ = some (.int .i64 z) ∧ Below w.heap.size w W ∧ w.heap.size + 2 ≤ W.heap.size) (g0 : W.cell? ⟨g, 0, none⟩ = some (.int .i64 m)) (g1 : W.cell? ⟨g, 1, none⟩ = some (.int .i64 n)) (g2 : W.cell? ⟨g, 2, none⟩ = some (.int .i64 o)) (hg : g < W.heap.size) : W.cell? ⟨w.heap.size, 0, none⟩ = some (.int .i64 a) ∧ W.cell? ⟨w.heap.size, 1, none⟩ = some (.int .i64 b) ∧ W.cell? ⟨w.heap.size, 2, none⟩ = some (.int .i64 c) ∧ W.cell? ⟨w.heap.size + 1, 0, none⟩ = some (.int .i64 x) ∧ W.cell? ⟨w.heap.size + 1, 1, none⟩ = some (.int .i64 y) ∧ W.cell? ⟨w.heap.size + 1, 2, none⟩ = some (.int .i64 z) ∧ W.cell? ⟨g, 0, none⟩ = some (.int .i64 m) ∧ W.cell? ⟨g, 1, none⟩ = some (.int .i64 n) ∧ W.cell? ⟨g, 2, none⟩ = some (.int .i64 o) ∧ g < W.heap.size ∧ Below w.heap.size w W ∧ w.heap.size + 2 ≤ W.heap.size := by
  obtain ⟨c0, c1, c2, c3, c4, c5, hB, hz⟩ := h
  exact ⟨c0, c1, c2, c3, c4, c5, g0, g1, g2, hg, hB, hz⟩
theorem lg_last {g t : Nat} {a b c x y z m n o : Int} {w W : World} (h : W.cell? ⟨w.heap.size, 0, none⟩ = some (.int .i64 a) ∧ W.cell? ⟨w.heap.size, 1, none⟩ = some (.int .i64 b) ∧ W.cell? ⟨w.heap.size, 2, none⟩ = some (.int .i64 c) ∧ W.cell? ⟨w.heap.size + 1, 0, none⟩ = some (.int .i64 x) ∧ W.cell? ⟨w.heap.size + 1, 1, none⟩ = some (.int .i64 y) ∧ W.cell? ⟨w.heap.size + 1, 2, none⟩ = some (.int .i64 z) ∧ W.cell? ⟨g, 0, none⟩ = some (.int .i64 m) ∧ W.cell? ⟨g, 1, none⟩ = some (.int .i64 n) ∧ W.cell? ⟨g, 2, none⟩ = some (.int .i64 o) ∧ g < W.heap.size ∧ Below w.heap.size w W ∧ w.heap.size + 2 ≤ W.heap.size) (g0 : W.cell? ⟨t, 0, none⟩ = some (.int .i64 m)) (g1 : W.cell? ⟨t, 1, none⟩ = some (.int .i64 n)) (g2 : W.cell? ⟨t, 2, none⟩ = some (.int .i64 o)) : W.cell? ⟨g, 0, none⟩ = some (.int .i64 m) ∧ W.cell? ⟨g, 1, none⟩ = some (.int .i64 n) ∧ W.cell? ⟨g, 2, none⟩ = some (.int .i64 o) ∧ W.cell? ⟨t, 0, none⟩ = some (.int .i64 m) ∧ W.cell? ⟨t, 1, none⟩ = some (.int .i64 n) ∧ W.cell? ⟨t, 2, none⟩ = some (.int .i64 o) ∧ Below w.heap.size w W := by
  obtain ⟨c0, c1, c2, c3, c4, c5, c6, c7, c8, hg, hB, hz⟩ := h
  exact ⟨c6, c7, c8, g0, g1, g2, hB⟩


set_option maxHeartbeats 2000000 in
theorem vvmax_law (a b c : Int) (_wa : (Lit.int .i64 a).wf = true) (_wb : (Lit.int .i64 b).wf = true) (_wc : (Lit.int .i64 c).wf = true) (x y z : Int) (_wx : (Lit.int .i64 x).wf = true) (_wy : (Lit.int .i64 y).wf = true) (_wz : (Lit.int .i64 z).wf = true) (w : World) :
    Calls Try.prog 4 #[.agg #[.int .i64 a, .int .i64 b, .int .i64 c], .agg #[.int .i64 x, .int .i64 y, .int .i64 z]] w fun e w' => e = .returned (.bool true) ∧ Below w.heap.size w w' := by
  clear _wa _wb _wc _wx _wy _wz
  obtain ⟨m, hm⟩ : ∃ m, m = maxV (twoB a b c x y z) a x := ⟨_, rfl⟩
  obtain ⟨n, hn⟩ : ∃ n, n = maxV (twoB a b c x y z) b y := ⟨_, rfl⟩
  obtain ⟨o, ho⟩ : ∃ o, o = maxV (twoB a b c x y z) c z := ⟨_, rfl⟩
  obtain ⟨k, hk⟩ : ∃ k, k = okC (twoB a b c x y z) := ⟨_, rfl⟩
  have C1 := fun W => spec_max a b c x y z W
  have C2 := fun W => impl_max a b c x y z W
  rw [← hm, ← hn, ← ho, ← hk] at C1 C2
  have D1 : Hid (∀ W, Calls Try.prog 12 #[.agg #[.int .i64 a, .int .i64 b, .int .i64 c], .agg #[.int .i64 x, .int .i64 y, .int .i64 z]] W fun e w' => e = .returned (.tuple #[.agg #[.int .i64 m, .int .i64 n, .int .i64 o], .int .i64 k]) ∧ Below W.heap.size W w') := C1
  have D2 : Hid (∀ W, Calls Try.prog 13 #[.agg #[.int .i64 a, .int .i64 b, .int .i64 c], .agg #[.int .i64 x, .int .i64 y, .int .i64 z]] W fun e w' => e = .returned (.tuple #[.agg #[.int .i64 m, .int .i64 n, .int .i64 o], .int .i64 k]) ∧ Below W.heap.size W w') := C2
  clear C1 C2 hm hn ho hk
  go_enter Try.func4, Try.ntmps4
  go_upto_region 1 with fail
  go_cut [5, 6] (fun s5 s6 wc => ∃ g : Nat, s5 = .pointer (some ⟨g, 0, none⟩) ∧ s6 = .int .i64 k ∧ w.heap.size + 2 ≤ g ∧ wc.cell? ⟨w.heap.size, 0, none⟩ = some (.int .i64 a) ∧ wc.cell? ⟨w.heap.size, 1, none⟩ = some (.int .i64 b) ∧ wc.cell? ⟨w.heap.size, 2, none⟩ = some (.int .i64 c) ∧ wc.cell? ⟨w.heap.size + 1, 0, none⟩ = some (.int .i64 x) ∧ wc.cell? ⟨w.heap.size + 1, 1, none⟩ = some (.int .i64 y) ∧ wc.cell? ⟨w.heap.size + 1, 2, none⟩ = some (.int .i64 z) ∧ wc.cell? ⟨g, 0, none⟩ = some (.int .i64 m) ∧ wc.cell? ⟨g, 1, none⟩ = some (.int .i64 n) ∧ wc.cell? ⟨g, 2, none⟩ = some (.int .i64 o) ∧ g < wc.heap.size ∧ Below w.heap.size w wc ∧ w.heap.size + 2 ≤ wc.heap.size)
  case first =>
    go_region_held3 (fun w' => w'.cell? ⟨w.heap.size, 0, none⟩ = some (.int .i64 a) ∧ w'.cell? ⟨w.heap.size, 1, none⟩ = some (.int .i64 b) ∧ w'.cell? ⟨w.heap.size, 2, none⟩ = some (.int .i64 c) ∧ w'.cell? ⟨w.heap.size + 1, 0, none⟩ = some (.int .i64 x) ∧ w'.cell? ⟨w.heap.size + 1, 1, none⟩ = some (.int .i64 y) ∧ w'.cell? ⟨w.heap.size + 1, 2, none⟩ = some (.int .i64 z) ∧ Below w.heap.size w w' ∧ w.heap.size + 2 ≤ w'.heap.size) (with_reducible first | assumption | exact lv_start | exact lv_drew (lv_alloc lv_start0) | (refine lv_drew (lv_alloc ?_); assumption) | (refine lv_drew ?_; assumption) | (refine lv_alloc ?_; assumption) | (refine lv_keep (by assumption) ?_; assumption) | (refine lv_set (lv_set (lv_set ?_ ?_) ?_) ?_; all_goals (first | assumption | omega))) (first | (go_at_call_of 10 (Value.agg #[.int .i64 a, .int .i64 b, .int .i64 c]); refine (toVv_any _ _ _ _).mono ?_; rintro e w1 ⟨rfl, hb⟩; obtain ⟨hc, hf⟩ := bcell hb; have z1 := hb.size; (try simp at z1); have hK := lv_keep hb (by with_reducible assumption); (try (have q1 : w.heap.size + 1 + 1 < w1.heap.size := by omega))) | (go_at_call_of 10 (Value.agg #[.int .i64 x, .int .i64 y, .int .i64 z]); refine (toVv_any _ _ _ _).mono ?_; rintro e w2 ⟨rfl, hb⟩; obtain ⟨hc, hf⟩ := bcell hb; have z2 := hb.size; (try simp at z2); have hK := lv_keep hb (by with_reducible assumption); (try (have q1 : w.heap.size + 1 + 1 < w2.heap.size := by omega)); (try (have q2 : w1.heap.size < w2.heap.size := by omega))) | (go_at_call 12; refine (D1.out _).mono ?_; rintro e w3 ⟨rfl, hb⟩; obtain ⟨hc, hf⟩ := bcell hb; have z3 := hb.size; (try simp at z3); have hK := lv_keep hb (by with_reducible assumption)))
    all_goals
      go_wp2_with fail
      go_meet
      case rel =>
        refine ⟨_, rfl, rfl, by omega, ?_⟩
        refine lg_of (by with_reducible assumption) (by go_simp) (by go_simp) (by go_simp) ?_
        simp [World.setCell]
        try omega
  case rest =>
    obtain ⟨g, rfl, rfl, hg, hS⟩ := hcut
    clear D1
    go_upto_region 2 with fail
    go_cut [7, 8] (fun s7 s8 wd => ∃ t : Nat, s7 = .pointer (some ⟨t, 0, none⟩) ∧ s8 = .int .i64 k ∧ wd.cell? ⟨g, 0, none⟩ = some (.int .i64 m) ∧ wd.cell? ⟨g, 1, none⟩ = some (.int .i64 n) ∧ wd.cell? ⟨g, 2, none⟩ = some (.int .i64 o) ∧ wd.cell? ⟨t, 0, none⟩ = some (.int .i64 m) ∧ wd.cell? ⟨t, 1, none⟩ = some (.int .i64 n) ∧ wd.cell? ⟨t, 2, none⟩ = some (.int .i64 o) ∧ Below w.heap.size w wd)
    case first =>
      go_region_held3 (fun w' => w'.cell? ⟨w.heap.size, 0, none⟩ = some (.int .i64 a) ∧ w'.cell? ⟨w.heap.size, 1, none⟩ = some (.int .i64 b) ∧ w'.cell? ⟨w.heap.size, 2, none⟩ = some (.int .i64 c) ∧ w'.cell? ⟨w.heap.size + 1, 0, none⟩ = some (.int .i64 x) ∧ w'.cell? ⟨w.heap.size + 1, 1, none⟩ = some (.int .i64 y) ∧ w'.cell? ⟨w.heap.size + 1, 2, none⟩ = some (.int .i64 z) ∧ w'.cell? ⟨g, 0, none⟩ = some (.int .i64 m) ∧ w'.cell? ⟨g, 1, none⟩ = some (.int .i64 n) ∧ w'.cell? ⟨g, 2, none⟩ = some (.int .i64 o) ∧ g < w'.heap.size ∧ Below w.heap.size w w' ∧ w.heap.size + 2 ≤ w'.heap.size) (with_reducible first | assumption | (refine lg_drew (lg_alloc ?_); assumption) | (refine lg_drew ?_; assumption) | (refine lg_alloc ?_; assumption) | (refine lg_keep (by assumption) ?_; assumption) | (refine lg_set (lg_set (lg_set ?_ ?_ ?_) ?_ ?_) ?_ ?_; all_goals (first | assumption | omega))) (first | (go_at_call_of 10 (Value.agg #[.int .i64 a, .int .i64 b, .int .i64 c]); refine (toVv_any _ _ _ _).mono ?_; rintro e w1 ⟨rfl, hb⟩; obtain ⟨hc, hf⟩ := bcell hb; have z1 := hb.size; (try simp at z1); have hK := lg_keep hb (by with_reducible assumption); (try (have q1 : wc.heap.size < w1.heap.size := by omega))) | (go_at_call_of 10 (Value.agg #[.int .i64 x, .int .i64 y, .int .i64 z]); refine (toVv_any _ _ _ _).mono ?_; rintro e w2 ⟨rfl, hb⟩; obtain ⟨hc, hf⟩ := bcell hb; have z2 := hb.size; (try simp at z2); have hK := lg_keep hb (by with_reducible assumption); (try (have q1 : wc.heap.size < w2.heap.size := by omega)); (try (have q2 : w1.heap.size < w2.heap.size := by omega))) | (go_at_call 13; refine (D2.out _).mono ?_; rintro e w3 ⟨rfl, hb⟩; obtain ⟨hc, hf⟩ := bcell hb; have z3 := hb.size; (try simp at z3); have hK := lg_keep hb (by with_reducible assumption)))
      all_goals
        go_wp2_with fail
        go_meet
        case rel =>
          refine ⟨_, rfl, rfl, ?_⟩
          exact lg_last (by with_reducible assumption) (by go_simp) (by go_simp) (by go_simp)
    case rest =>
      obtain ⟨t, rfl, rfl, e0, e1, e2, f0, f1, f2, hB⟩ := hcut
      clear D2 hS
      go_wp2_with fail
      refine (eq_any _ _ _ _).mono ?_
      rintro e we ⟨rfl, hb⟩
      go_wp2
      go_ret
      exact ⟨rfl, hB.trans (hb.mono hB.size)⟩


set_option maxHeartbeats 2000000 in
theorem vvmin_law (a b c : Int) (_wa : (Lit.int .i64 a).wf = true) (_wb : (Lit.int .i64 b).wf = true) (_wc : (Lit.int .i64 c).wf = true) (x y z : Int) (_wx : (Lit.int .i64 x).wf = true) (_wy : (Lit.int .i64 y).wf = true) (_wz : (Lit.int .i64 z).wf = true) (w : World) :
    Calls Try.prog 5 #[.agg #[.int .i64 a, .int .i64 b, .int .i64 c], .agg #[.int .i64 x, .int .i64 y, .int .i64 z]] w fun e w' => e = .returned (.bool true) ∧ Below w.heap.size w w' := by
  clear _wa _wb _wc _wx _wy _wz
  obtain ⟨m, hm⟩ : ∃ m, m = minV (twoB a b c x y z) a x := ⟨_, rfl⟩
  obtain ⟨n, hn⟩ : ∃ n, n = minV (twoB a b c x y z) b y := ⟨_, rfl⟩
  obtain ⟨o, ho⟩ : ∃ o, o = minV (twoB a b c x y z) c z := ⟨_, rfl⟩
  obtain ⟨k, hk⟩ : ∃ k, k = okC (twoB a b c x y z) := ⟨_, rfl⟩
  have C1 := fun W => spec_min a b c x y z W
  have C2 := fun W => impl_min a b c x y z W
  rw [← hm, ← hn, ← ho, ← hk] at C1 C2
  have D1 : Hid (∀ W, Calls Try.prog 15 #[.agg #[.int .i64 a, .int .i64 b, .int .i64 c], .agg #[.int .i64 x, .int .i64 y, .int .i64 z]] W fun e w' => e = .returned (.tuple #[.agg #[.int .i64 m, .int .i64 n, .int .i64 o], .int .i64 k]) ∧ Below W.heap.size W w') := C1
  have D2 : Hid (∀ W, Calls Try.prog 16 #[.agg #[.int .i64 a, .int .i64 b, .int .i64 c], .agg #[.int .i64 x, .int .i64 y, .int .i64 z]] W fun e w' => e = .returned (.tuple #[.agg #[.int .i64 m, .int .i64 n, .int .i64 o], .int .i64 k]) ∧ Below W.heap.size W w') := C2
  clear C1 C2 hm hn ho hk
  go_enter Try.func5, Try.ntmps5
  go_upto_region 1 with fail
  go_cut [5, 6] (fun s5 s6 wc => ∃ g : Nat, s5 = .pointer (some ⟨g, 0, none⟩) ∧ s6 = .int .i64 k ∧ w.heap.size + 2 ≤ g ∧ wc.cell? ⟨w.heap.size, 0, none⟩ = some (.int .i64 a) ∧ wc.cell? ⟨w.heap.size, 1, none⟩ = some (.int .i64 b) ∧ wc.cell? ⟨w.heap.size, 2, none⟩ = some (.int .i64 c) ∧ wc.cell? ⟨w.heap.size + 1, 0, none⟩ = some (.int .i64 x) ∧ wc.cell? ⟨w.heap.size + 1, 1, none⟩ = some (.int .i64 y) ∧ wc.cell? ⟨w.heap.size + 1, 2, none⟩ = some (.int .i64 z) ∧ wc.cell? ⟨g, 0, none⟩ = some (.int .i64 m) ∧ wc.cell? ⟨g, 1, none⟩ = some (.int .i64 n) ∧ wc.cell? ⟨g, 2, none⟩ = some (.int .i64 o) ∧ g < wc.heap.size ∧ Below w.heap.size w wc ∧ w.heap.size + 2 ≤ wc.heap.size)
  case first =>
    go_region_held3 (fun w' => w'.cell? ⟨w.heap.size, 0, none⟩ = some (.int .i64 a) ∧ w'.cell? ⟨w.heap.size, 1, none⟩ = some (.int .i64 b) ∧ w'.cell? ⟨w.heap.size, 2, none⟩ = some (.int .i64 c) ∧ w'.cell? ⟨w.heap.size + 1, 0, none⟩ = some (.int .i64 x) ∧ w'.cell? ⟨w.heap.size + 1, 1, none⟩ = some (.int .i64 y) ∧ w'.cell? ⟨w.heap.size + 1, 2, none⟩ = some (.int .i64 z) ∧ Below w.heap.size w w' ∧ w.heap.size + 2 ≤ w'.heap.size) (with_reducible first | assumption | exact lv_start | exact lv_drew (lv_alloc lv_start0) | (refine lv_drew (lv_alloc ?_); assumption) | (refine lv_drew ?_; assumption) | (refine lv_alloc ?_; assumption) | (refine lv_keep (by assumption) ?_; assumption) | (refine lv_set (lv_set (lv_set ?_ ?_) ?_) ?_; all_goals (first | assumption | omega))) (first | (go_at_call_of 10 (Value.agg #[.int .i64 a, .int .i64 b, .int .i64 c]); refine (toVv_any _ _ _ _).mono ?_; rintro e w1 ⟨rfl, hb⟩; obtain ⟨hc, hf⟩ := bcell hb; have z1 := hb.size; (try simp at z1); have hK := lv_keep hb (by with_reducible assumption); (try (have q1 : w.heap.size + 1 + 1 < w1.heap.size := by omega))) | (go_at_call_of 10 (Value.agg #[.int .i64 x, .int .i64 y, .int .i64 z]); refine (toVv_any _ _ _ _).mono ?_; rintro e w2 ⟨rfl, hb⟩; obtain ⟨hc, hf⟩ := bcell hb; have z2 := hb.size; (try simp at z2); have hK := lv_keep hb (by with_reducible assumption); (try (have q1 : w.heap.size + 1 + 1 < w2.heap.size := by omega)); (try (have q2 : w1.heap.size < w2.heap.size := by omega))) | (go_at_call 15; refine (D1.out _).mono ?_; rintro e w3 ⟨rfl, hb⟩; obtain ⟨hc, hf⟩ := bcell hb; have z3 := hb.size; (try simp at z3); have hK := lv_keep hb (by with_reducible assumption)))
    all_goals
      go_wp2_with fail
      go_meet
      case rel =>
        refine ⟨_, rfl, rfl, by omega, ?_⟩
        refine lg_of (by with_reducible assumption) (by go_simp) (by go_simp) (by go_simp) ?_
        simp [World.setCell]
        try omega
  case rest =>
    obtain ⟨g, rfl, rfl, hg, hS⟩ := hcut
    clear D1
    go_upto_region 2 with fail
    go_cut [7, 8] (fun s7 s8 wd => ∃ t : Nat, s7 = .pointer (some ⟨t, 0, none⟩) ∧ s8 = .int .i64 k ∧ wd.cell? ⟨g, 0, none⟩ = some (.int .i64 m) ∧ wd.cell? ⟨g, 1, none⟩ = some (.int .i64 n) ∧ wd.cell? ⟨g, 2, none⟩ = some (.int .i64 o) ∧ wd.cell? ⟨t, 0, none⟩ = some (.int .i64 m) ∧ wd.cell? ⟨t, 1, none⟩ = some (.int .i64 n) ∧ wd.cell? ⟨t, 2, none⟩ = some (.int .i64 o) ∧ Below w.heap.size w wd)
    case first =>
      go_region_held3 (fun w' => w'.cell? ⟨w.heap.size, 0, none⟩ = some (.int .i64 a) ∧ w'.cell? ⟨w.heap.size, 1, none⟩ = some (.int .i64 b) ∧ w'.cell? ⟨w.heap.size, 2, none⟩ = some (.int .i64 c) ∧ w'.cell? ⟨w.heap.size + 1, 0, none⟩ = some (.int .i64 x) ∧ w'.cell? ⟨w.heap.size + 1, 1, none⟩ = some (.int .i64 y) ∧ w'.cell? ⟨w.heap.size + 1, 2, none⟩ = some (.int .i64 z) ∧ w'.cell? ⟨g, 0, none⟩ = some (.int .i64 m) ∧ w'.cell? ⟨g, 1, none⟩ = some (.int .i64 n) ∧ w'.cell? ⟨g, 2, none⟩ = some (.int .i64 o) ∧ g < w'.heap.size ∧ Below w.heap.size w w' ∧ w.heap.size + 2 ≤ w'.heap.size) (with_reducible first | assumption | (refine lg_drew (lg_alloc ?_); assumption) | (refine lg_drew ?_; assumption) | (refine lg_alloc ?_; assumption) | (refine lg_keep (by assumption) ?_; assumption) | (refine lg_set (lg_set (lg_set ?_ ?_ ?_) ?_ ?_) ?_ ?_; all_goals (first | assumption | omega))) (first | (go_at_call_of 10 (Value.agg #[.int .i64 a, .int .i64 b, .int .i64 c]); refine (toVv_any _ _ _ _).mono ?_; rintro e w1 ⟨rfl, hb⟩; obtain ⟨hc, hf⟩ := bcell hb; have z1 := hb.size; (try simp at z1); have hK := lg_keep hb (by with_reducible assumption); (try (have q1 : wc.heap.size < w1.heap.size := by omega))) | (go_at_call_of 10 (Value.agg #[.int .i64 x, .int .i64 y, .int .i64 z]); refine (toVv_any _ _ _ _).mono ?_; rintro e w2 ⟨rfl, hb⟩; obtain ⟨hc, hf⟩ := bcell hb; have z2 := hb.size; (try simp at z2); have hK := lg_keep hb (by with_reducible assumption); (try (have q1 : wc.heap.size < w2.heap.size := by omega)); (try (have q2 : w1.heap.size < w2.heap.size := by omega))) | (go_at_call 16; refine (D2.out _).mono ?_; rintro e w3 ⟨rfl, hb⟩; obtain ⟨hc, hf⟩ := bcell hb; have z3 := hb.size; (try simp at z3); have hK := lg_keep hb (by with_reducible assumption)))
      all_goals
        go_wp2_with fail
        go_meet
        case rel =>
          refine ⟨_, rfl, rfl, ?_⟩
          exact lg_last (by with_reducible assumption) (by go_simp) (by go_simp) (by go_simp)
    case rest =>
      obtain ⟨t, rfl, rfl, e0, e1, e2, f0, f1, f2, hB⟩ := hcut
      clear D2 hS
      go_wp2_with fail
      refine (eq_any _ _ _ _).mono ?_
      rintro e we ⟨rfl, hb⟩
      go_wp2
      go_ret
      exact ⟨rfl, hB.trans (hb.mono hB.size)⟩

end Go.Proofs.Ytcappnoghakdbah

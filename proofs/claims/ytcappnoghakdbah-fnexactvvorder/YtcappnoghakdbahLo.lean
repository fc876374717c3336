/- VvOrder of the program and of the specification answer alike. -/
import Derived.Test.YtcappnoghakdbahRows
import Derived.Test.YtcappnoghakdbahVv
import Derived.Test.YtcappnoghakdbahMm
import Derived.Test.YtcappnoghakdbahEq
import Derived.Test.YtcappnoghakdbahOv
import Derived.Test.YtcappnoghakdbahOs0
import Derived.Test.YtcappnoghakdbahOs1
import Derived.Test.YtcappnoghakdbahOs2
import Derived.Test.YtcappnoghakdbahOi0
import Derived.Test.YtcappnoghakdbahOi1
import Derived.Test.YtcappnoghakdbahOi2
import Derived.WalkKit
import Derived.WalkSpells
import Derived.WalkLawsBesides
import Derived.Deep.QuietTactic
import Derived.BigQuiet
import Derived.Deep.RegionHeld3
namespace Go.Proofs.Ytcappnoghakdbah
open Go.RowKit
set_option linter.unusedSimpArgs false
set_option linter.unusedVariables false


def twoO (a b c x y z : Int) : Bool := vvB a b c && vvB x y z
def ordR (a b c x y z : Int) : Int := (if a < x ∨ b < y ∨ c < z then 1 else 0) + (if x < a ∨ y < b ∨ z < c then 2 else 0)
def ordV (t : Bool) (r : Int) : Int := if t = true then r else 0
def ordK (t : Bool) : Int := if t = true then 0 else 1
theorem tri (a x : Int) : a < x ∨ a = x ∨ x < a := by omega


theorem l01_order_all (a b c x y z : Int) (w : World) :
    Calls Try.prog 32 #[.agg #[.int .i64 a, .int .i64 b, .int .i64 c], .agg #[.int .i64 x, .int .i64 y, .int .i64 z]] w fun e w' => e = .returned (.int .i64 (ordR a b c x y z)) ∧ Below w.heap.size w w' := by
  rcases tri a x with h0 | h0 | h0 <;> rcases tri b y with h1 | h1 | h1 <;> rcases tri c z with h2 | h2 | h2
  · have hr : 1 = ordR a b c x y z := by (unfold ordR; (repeat' split) <;> omega)
    exact (l01order_lll a b c x y z w h0 h1 h2).mono fun e w' ⟨he, hb⟩ => ⟨he.trans (ret_int hr), hb⟩
  · subst h2; have hr : 1 = ordR a b c x y c := by (unfold ordR; (repeat' split) <;> omega)
    exact (l01order_lle a b c x y w h0 h1).mono fun e w' ⟨he, hb⟩ => ⟨he.trans (ret_int hr), hb⟩
  · have hr : 3 = ordR a b c x y z := by (unfold ordR; (repeat' split) <;> omega)
    exact (l01order_llg a b c x y z w h0 h1 h2).mono fun e w' ⟨he, hb⟩ => ⟨he.trans (ret_int hr), hb⟩
  · subst h1; have hr : 1 = ordR a b c x b z := by (unfold ordR; (repeat' split) <;> omega)
    exact (l01order_lel a b c x z w h0 h2).mono fun e w' ⟨he, hb⟩ => ⟨he.trans (ret_int hr), hb⟩
  · subst h1; subst h2; have hr : 1 = ordR a b c x b c := by (unfold ordR; (repeat' split) <;> omega)
    exact (l01order_lee a b c x w h0).mono fun e w' ⟨he, hb⟩ => ⟨he.trans (ret_int hr), hb⟩
  · subst h1; have hr : 3 = ordR a b c x b z := by (unfold ordR; (repeat' split) <;> omega)
    exact (l01order_leg a b c x z w h0 h2).mono fun e w' ⟨he, hb⟩ => ⟨he.trans (ret_int hr), hb⟩
  · have hr : 3 = ordR a b c x y z := by (unfold ordR; (repeat' split) <;> omega)
    exact (l01order_lgl a b c x y z w h0 h1 h2).mono fun e w' ⟨he, hb⟩ => ⟨he.trans (ret_int hr), hb⟩
  · subst h2; have hr : 3 = ordR a b c x y c := by (unfold ordR; (repeat' split) <;> omega)
    exact (l01order_lge a b c x y w h0 h1).mono fun e w' ⟨he, hb⟩ => ⟨he.trans (ret_int hr), hb⟩
  · have hr : 3 = ordR a b c x y z := by (unfold ordR; (repeat' split) <;> omega)
    exact (l01order_lgg a b c x y z w h0 h1 h2).mono fun e w' ⟨he, hb⟩ => ⟨he.trans (ret_int hr), hb⟩
  · subst h0; have hr : 1 = ordR a b c a y z := by (unfold ordR; (repeat' split) <;> omega)
    exact (l01order_ell a b c y z w h1 h2).mono fun e w' ⟨he, hb⟩ => ⟨he.trans (ret_int hr), hb⟩
  · subst h0; subst h2; have hr : 1 = ordR a b c a y c := by (unfold ordR; (repeat' split) <;> omega)
    exact (l01order_ele a b c y w h1).mono fun e w' ⟨he, hb⟩ => ⟨he.trans (ret_int hr), hb⟩
  · subst h0; have hr : 3 = ordR a b c a y z := by (unfold ordR; (repeat' split) <;> omega)
    exact (l01order_elg a b c y z w h1 h2).mono fun e w' ⟨he, hb⟩ => ⟨he.trans (ret_int hr), hb⟩
  · subst h0; subst h1; have hr : 1 = ordR a b c a b z := by (unfold ordR; (repeat' split) <;> omega)
    exact (l01order_eel a b c z w h2).mono fun e w' ⟨he, hb⟩ => ⟨he.trans (ret_int hr), hb⟩
  · subst h0; subst h1; subst h2; have hr : 0 = ordR a b c a b c := by (unfold ordR; (repeat' split) <;> omega)
    exact (l01order_eee a b c w ).mono fun e w' ⟨he, hb⟩ => ⟨he.trans (ret_int hr), hb⟩
  · subst h0; subst h1; have hr : 2 = ordR a b c a b z := by (unfold ordR; (repeat' split) <;> omega)
    exact (l01order_eeg a b c z w h2).mono fun e w' ⟨he, hb⟩ => ⟨he.trans (ret_int hr), hb⟩
  · subst h0; have hr : 3 = ordR a b c a y z := by (unfold ordR; (repeat' split) <;> omega)
    exact (l01order_egl a b c y z w h1 h2).mono fun e w' ⟨he, hb⟩ => ⟨he.trans (ret_int hr), hb⟩
  · subst h0; subst h2; have hr : 2 = ordR a b c a y c := by (unfold ordR; (repeat' split) <;> omega)
    exact (l01order_ege a b c y w h1).mono fun e w' ⟨he, hb⟩ => ⟨he.trans (ret_int hr), hb⟩
  · subst h0; have hr : 2 = ordR a b c a y z := by (unfold ordR; (repeat' split) <;> omega)
    exact (l01order_egg a b c y z w h1 h2).mono fun e w' ⟨he, hb⟩ => ⟨he.trans (ret_int hr), hb⟩
  · have hr : 3 = ordR a b c x y z := by (unfold ordR; (repeat' split) <;> omega)
    exact (l01order_gll a b c x y z w h0 h1 h2).mono fun e w' ⟨he, hb⟩ => ⟨he.trans (ret_int hr), hb⟩
  · subst h2; have hr : 3 = ordR a b c x y c := by (unfold ordR; (repeat' split) <;> omega)
    exact (l01order_gle a b c x y w h0 h1).mono fun e w' ⟨he, hb⟩ => ⟨he.trans (ret_int hr), hb⟩
  · have hr : 3 = ordR a b c x y z := by (unfold ordR; (repeat' split) <;> omega)
    exact (l01order_glg a b c x y z w h0 h1 h2).mono fun e w' ⟨he, hb⟩ => ⟨he.trans (ret_int hr), hb⟩
  · subst h1; have hr : 3 = ordR a b c x b z := by (unfold ordR; (repeat' split) <;> omega)
    exact (l01order_gel a b c x z w h0 h2).mono fun e w' ⟨he, hb⟩ => ⟨he.trans (ret_int hr), hb⟩
  · subst h1; subst h2; have hr : 2 = ordR a b c x b c := by (unfold ordR; (repeat' split) <;> omega)
    exact (l01order_gee a b c x w h0).mono fun e w' ⟨he, hb⟩ => ⟨he.trans (ret_int hr), hb⟩
  · subst h1; have hr : 2 = ordR a b c x b z := by (unfold ordR; (repeat' split) <;> omega)
    exact (l01order_geg a b c x z w h0 h2).mono fun e w' ⟨he, hb⟩ => ⟨he.trans (ret_int hr), hb⟩
  · have hr : 3 = ordR a b c x y z := by (unfold ordR; (repeat' split) <;> omega)
    exact (l01order_ggl a b c x y z w h0 h1 h2).mono fun e w' ⟨he, hb⟩ => ⟨he.trans (ret_int hr), hb⟩
  · subst h2; have hr : 2 = ordR a b c x y c := by (unfold ordR; (repeat' split) <;> omega)
    exact (l01order_gge a b c x y w h0 h1).mono fun e w' ⟨he, hb⟩ => ⟨he.trans (ret_int hr), hb⟩
  · have hr : 2 = ordR a b c x y z := by (unfold ordR; (repeat' split) <;> omega)
    exact (l01order_ggg a b c x y z w h0 h1 h2).mono fun e w' ⟨he, hb⟩ => ⟨he.trans (ret_int hr), hb⟩

theorem impl_order_all (a b c x y z : Int) (w : World) (h : vvB a b c = true) (h' : vvB x y z = true) :
    Calls Try.prog 23 #[.agg #[.int .i64 a, .int .i64 b, .int .i64 c], .agg #[.int .i64 x, .int .i64 y, .int .i64 z]] w fun e w' => e = .returned (.tuple #[.int .i64 (ordR a b c x y z), .int .i64 0]) ∧ Below w.heap.size w w' := by
  rcases tri a x with h0 | h0 | h0 <;> rcases tri b y with h1 | h1 | h1 <;> rcases tri c z with h2 | h2 | h2
  · have hr : 1 = ordR a b c x y z := by (unfold ordR; (repeat' split) <;> omega)
    exact (impl_order_lll a b c x y z w h h' h0 h1 h2).mono fun e w' ⟨he, hb⟩ => ⟨he.trans (ret_ints hr rfl), hb⟩
  · subst h2; have hr : 1 = ordR a b c x y c := by (unfold ordR; (repeat' split) <;> omega)
    exact (impl_order_lle a b c x y w h h' h0 h1).mono fun e w' ⟨he, hb⟩ => ⟨he.trans (ret_ints hr rfl), hb⟩
  · have hr : 3 = ordR a b c x y z := by (unfold ordR; (repeat' split) <;> omega)
    exact (impl_order_llg a b c x y z w h h' h0 h1 h2).mono fun e w' ⟨he, hb⟩ => ⟨he.trans (ret_ints hr rfl), hb⟩
  · subst h1; have hr : 1 = ordR a b c x b z := by (unfold ordR; (repeat' split) <;> omega)
    exact (impl_order_lel a b c x z w h h' h0 h2).mono fun e w' ⟨he, hb⟩ => ⟨he.trans (ret_ints hr rfl), hb⟩
  · subst h1; subst h2; have hr : 1 = ordR a b c x b c := by (unfold ordR; (repeat' split) <;> omega)
    exact (impl_order_lee a b c x w h h' h0).mono fun e w' ⟨he, hb⟩ => ⟨he.trans (ret_ints hr rfl), hb⟩
  · subst h1; have hr : 3 = ordR a b c x b z := by (unfold ordR; (repeat' split) <;> omega)
    exact (impl_order_leg a b c x z w h h' h0 h2).mono fun e w' ⟨he, hb⟩ => ⟨he.trans (ret_ints hr rfl), hb⟩
  · have hr : 3 = ordR a b c x y z := by (unfold ordR; (repeat' split) <;> omega)
    exact (impl_order_lgl a b c x y z w h h' h0 h1 h2).mono fun e w' ⟨he, hb⟩ => ⟨he.trans (ret_ints hr rfl), hb⟩
  · subst h2; have hr : 3 = ordR a b c x y c := by (unfold ordR; (repeat' split) <;> omega)
    exact (impl_order_lge a b c x y w h h' h0 h1).mono fun e w' ⟨he, hb⟩ => ⟨he.trans (ret_ints hr rfl), hb⟩
  · have hr : 3 = ordR a b c x y z := by (unfold ordR; (repeat' split) <;> omega)
    exact (impl_order_lgg a b c x y z w h h' h0 h1 h2).mono fun e w' ⟨he, hb⟩ => ⟨he.trans (ret_ints hr rfl), hb⟩
  · subst h0; have hr : 1 = ordR a b c a y z := by (unfold ordR; (repeat' split) <;> omega)
    exact (impl_order_ell a b c y z w h h' h1 h2).mono fun e w' ⟨he, hb⟩ => ⟨he.trans (ret_ints hr rfl), hb⟩
  · subst h0; subst h2; have hr : 1 = ordR a b c a y c := by (unfold ordR; (repeat' split) <;> omega)
    exact (impl_order_ele a b c y w h h' h1).mono fun e w' ⟨he, hb⟩ => ⟨he.trans (ret_ints hr rfl), hb⟩
  · subst h0; have hr : 3 = ordR a b c a y z := by (unfold ordR; (repeat' split) <;> omega)
    exact (impl_order_elg a b c y z w h h' h1 h2).mono fun e w' ⟨he, hb⟩ => ⟨he.trans (ret_ints hr rfl), hb⟩
  · subst h0; subst h1; have hr : 1 = ordR a b c a b z := by (unfold ordR; (repeat' split) <;> omega)
    exact (impl_order_eel a b c z w h h' h2).mono fun e w' ⟨he, hb⟩ => ⟨he.trans (ret_ints hr rfl), hb⟩
  · subst h0; subst h1; subst h2; have hr : 0 = ordR a b c a b c := by (unfold ordR; (repeat' split) <;> omega)
    exact (impl_order_eee a b c w h h' ).mono fun e w' ⟨he, hb⟩ => ⟨he.trans (ret_ints hr rfl), hb⟩
  · subst h0; subst h1; have hr : 2 = ordR a b c a b z := by (unfold ordR; (repeat' split) <;> omega)
    exact (impl_order_eeg a b c z w h h' h2).mono fun e w' ⟨he, hb⟩ => ⟨he.trans (ret_ints hr rfl), hb⟩
  · subst h0; have hr : 3 = ordR a b c a y z := by (unfold ordR; (repeat' split) <;> omega)
    exact (impl_order_egl a b c y z w h h' h1 h2).mono fun e w' ⟨he, hb⟩ => ⟨he.trans (ret_ints hr rfl), hb⟩
  · subst h0; subst h2; have hr : 2 = ordR a b c a y c := by (unfold ordR; (repeat' split) <;> omega)
    exact (impl_order_ege a b c y w h h' h1).mono fun e w' ⟨he, hb⟩ => ⟨he.trans (ret_ints hr rfl), hb⟩
  · subst h0; have hr : 2 = ordR a b c a y z := by (unfold ordR; (repeat' split) <;> omega)
    exact (impl_order_egg a b c y z w h h' h1 h2).mono fun e w' ⟨he, hb⟩ => ⟨he.trans (ret_ints hr rfl), hb⟩
  · have hr : 3 = ordR a b c x y z := by (unfold ordR; (repeat' split) <;> omega)
    exact (impl_order_gll a b c x y z w h h' h0 h1 h2).mono fun e w' ⟨he, hb⟩ => ⟨he.trans (ret_ints hr rfl), hb⟩
  · subst h2; have hr : 3 = ordR a b c x y c := by (unfold ordR; (repeat' split) <;> omega)
    exact (impl_order_gle a b c x y w h h' h0 h1).mono fun e w' ⟨he, hb⟩ => ⟨he.trans (ret_ints hr rfl), hb⟩
  · have hr : 3 = ordR a b c x y z := by (unfold ordR; (repeat' split) <;> omega)
    exact (impl_order_glg a b c x y z w h h' h0 h1 h2).mono fun e w' ⟨he, hb⟩ => ⟨he.trans (ret_ints hr rfl), hb⟩
  · subst h1; have hr : 3 = ordR a b c x b z := by (unfold ordR; (repeat' split) <;> omega)
    exact (impl_order_gel a b c x z w h h' h0 h2).mono fun e w' ⟨he, hb⟩ => ⟨he.trans (ret_ints hr rfl), hb⟩
  · subst h1; subst h2; have hr : 2 = ordR a b c x b c := by (unfold ordR; (repeat' split) <;> omega)
    exact (impl_order_gee a b c x w h h' h0).mono fun e w' ⟨he, hb⟩ => ⟨he.trans (ret_ints hr rfl), hb⟩
  · subst h1; have hr : 2 = ordR a b c x b z := by (unfold ordR; (repeat' split) <;> omega)
    exact (impl_order_geg a b c x z w h h' h0 h2).mono fun e w' ⟨he, hb⟩ => ⟨he.trans (ret_ints hr rfl), hb⟩
  · have hr : 3 = ordR a b c x y z := by (unfold ordR; (repeat' split) <;> omega)
    exact (impl_order_ggl a b c x y z w h h' h0 h1 h2).mono fun e w' ⟨he, hb⟩ => ⟨he.trans (ret_ints hr rfl), hb⟩
  · subst h2; have hr : 2 = ordR a b c x y c := by (unfold ordR; (repeat' split) <;> omega)
    exact (impl_order_gge a b c x y w h h' h0 h1).mono fun e w' ⟨he, hb⟩ => ⟨he.trans (ret_ints hr rfl), hb⟩
  · have hr : 2 = ordR a b c x y z := by (unfold ordR; (repeat' split) <;> omega)
    exact (impl_order_ggg a b c x y z w h h' h0 h1 h2).mono fun e w' ⟨he, hb⟩ => ⟨he.trans (ret_ints hr rfl), hb⟩

theorem spec_order (a b c x y z : Int) (w : World) :
    Calls Try.prog 22 #[.agg #[.int .i64 a, .int .i64 b, .int .i64 c], .agg #[.int .i64 x, .int .i64 y, .int .i64 z]] w fun e w' => e = .returned (.tuple #[.int .i64 (ordV (twoO a b c x y z) (ordR a b c x y z)), .int .i64 (ordK (twoO a b c x y z))]) ∧ Below w.heap.size w w' := by
  cases h1 : vvB a b c
  · exact (spec_order_bad1 a b c x y z w h1).mono fun e w' ⟨he, hb⟩ => ⟨he.trans (ret_ints (by simp [ordV, twoO, h1]) (by simp [ordK, twoO, h1])), hb⟩
  · cases h2 : vvB x y z
    · exact (spec_order_bad2 a b c x y z w h1 h2).mono fun e w' ⟨he, hb⟩ => ⟨he.trans (ret_ints (by simp [ordV, twoO, h2]) (by simp [ordK, twoO, h2])), hb⟩
    · exact (spec_order_good a b c x y z _ w h1 h2 (fun W => l01_order_all a b c x y z W)).mono fun e w' ⟨he, hb⟩ => ⟨he.trans (ret_ints (by simp [ordV, twoO, h1, h2]) (by simp [ordK, twoO, h1, h2])), hb⟩

theorem impl_order (a b c x y z : Int) (w : World) :
    Calls Try.prog 23 #[.agg #[.int .i64 a, .int .i64 b, .int .i64 c], .agg #[.int .i64 x, .int .i64 y, .int .i64 z]] w fun e w' => e = .returned (.tuple #[.int .i64 (ordV (twoO a b c x y z) (ordR a b c x y z)), .int .i64 (ordK (twoO a b c x y z))]) ∧ Below w.heap.size w w' := by
  cases h1 : vvB a b c
  · exact (impl_order_bad1 a b c x y z w h1).mono fun e w' ⟨he, hb⟩ => ⟨he.trans (ret_ints (by simp [ordV, twoO, h1]) (by simp [ordK, twoO, h1])), hb⟩
  · cases h2 : vvB x y z
    · exact (impl_order_bad2 a b c x y z w h1 h2).mono fun e w' ⟨he, hb⟩ => ⟨he.trans (ret_ints (by simp [ordV, twoO, h2]) (by simp [ordK, twoO, h2])), hb⟩
    · exact (impl_order_all a b c x y z w h1 h2).mono fun e w' ⟨he, hb⟩ => ⟨he.trans (ret_ints (by simp [ordV, twoO, h1, h2]) (by simp [ordK, twoO, h1, h2])), hb⟩

theorem lo_keep {a b c x y z : Int} {w W W' : World} (hb : Below W.heap.size W W') (h : W.cell? ⟨w.heap.size, 0, none⟩ = some (.int .i64 a) ∧ W.cell? ⟨w.heap.size, 1, none⟩ = some (.int .i64 b) ∧ W.cell? ⟨w.heap.size, 2, none⟩ = some (.int .i64 c) ∧ W.cell? ⟨w.heap.size + 1, 0, none⟩ = some (.int .i64 x) ∧ W.cell? ⟨w.heap.size + 1, 1, none⟩ = some (.int .i64 y) ∧ W.cell? ⟨w.heap.size + 1, 2, none⟩ = some (.int .i64 z) ∧ Below w.heap.size w W ∧ w.heap.size + 2 ≤ W.heap.size) : W'.cell? ⟨w.heap.size, 0, none⟩ = some (.int .i64 a) ∧ W'.cell? ⟨w.heap.size, 1, none⟩ = some (.int .i64 b) ∧ W'.cell? ⟨w.heap.size, 2, none⟩ = some (.int .i64 c) ∧ W'.cell? ⟨w.heap.size + 1, 0, none⟩ = some (.int .i64 x) ∧ W'.cell? ⟨w.heap.size + 1, 1, none⟩ = some (.int .i64 y) ∧ W'.cell? ⟨w.heap.size + 1, 2, none⟩ = some (.int .i64 z) ∧ Below w.heap.size w W' ∧ w.heap.size + 2 ≤ W'.heap.size := by
  obtain ⟨c0, c1, c2, c3, c4, c5, hB, hz⟩ := h
  have hq := hb.size
  exact ⟨cell_next hb c0 (by omega), cell_next hb c1 (by omega), cell_next hb c2 (by omega), cell_next hb c3 (by omega), cell_next hb c4 (by omega), cell_next hb c5 (by omega), hB.trans (hb.mono (by omega)), by omega⟩
theorem lo_alloc {a b c x y z : Int} {w W : World} {ob : Obj} (h : W.cell? ⟨w.heap.size, 0, none⟩ = some (.int .i64 a) ∧ W.cell? ⟨w.heap.size, 1, none⟩ = some (.int .i64 b) ∧ W.cell? ⟨w.heap.size, 2, none⟩ = some (.int .i64 c) ∧ W.cell? ⟨w.heap.size + 1, 0, none⟩ = some (.int .i64 x) ∧ W.cell? ⟨w.heap.size + 1, 1, none⟩ = some (.int .i64 y) ∧ W.cell? ⟨w.heap.size + 1, 2, none⟩ = some (.int .i64 z) ∧ Below w.heap.size w W ∧ w.heap.size + 2 ≤ W.heap.size) : (W.alloc ob).cell? ⟨w.heap.size, 0, none⟩ = some (.int .i64 a) ∧ (W.alloc ob).cell? ⟨w.heap.size, 1, none⟩ = some (.int .i64 b) ∧ (W.alloc ob).cell? ⟨w.heap.size, 2, none⟩ = some (.int .i64 c) ∧ (W.alloc ob).cell? ⟨w.heap.size + 1, 0, none⟩ = some (.int .i64 x) ∧ (W.alloc ob).cell? ⟨w.heap.size + 1, 1, none⟩ = some (.int .i64 y) ∧ (W.alloc ob).cell? ⟨w.heap.size + 1, 2, none⟩ = some (.int .i64 z) ∧ Below w.heap.size w (W.alloc ob) ∧ w.heap.size + 2 ≤ (W.alloc ob).heap.size := lo_keep ((Below.refl _ _).alloc (Nat.le_refl _) _) h
theorem lo_drew {a b c x y z : Int} {w W : World} (h : W.cell? ⟨w.heap.size, 0, none⟩ = some (.int .i64 a) ∧ W.cell? ⟨w.heap.size, 1, none⟩ = some (.int .i64 b) ∧ W.cell? ⟨w.heap.size, 2, none⟩ = some (.int .i64 c) ∧ W.cell? ⟨w.heap.size + 1, 0, none⟩ = some (.int .i64 x) ∧ W.cell? ⟨w.heap.size + 1, 1, none⟩ = some (.int .i64 y) ∧ W.cell? ⟨w.heap.size + 1, 2, none⟩ = some (.int .i64 z) ∧ Below w.heap.size w W ∧ w.heap.size + 2 ≤ W.heap.size) : W.drew.cell? ⟨w.heap.size, 0, none⟩ = some (.int .i64 a) ∧ W.drew.cell? ⟨w.heap.size, 1, none⟩ = some (.int .i64 b) ∧ W.drew.cell? ⟨w.heap.size, 2, none⟩ = some (.int .i64 c) ∧ W.drew.cell? ⟨w.heap.size + 1, 0, none⟩ = some (.int .i64 x) ∧ W.drew.cell? ⟨w.heap.size + 1, 1, none⟩ = some (.int .i64 y) ∧ W.drew.cell? ⟨w.heap.size + 1, 2, none⟩ = some (.int .i64 z) ∧ Below w.heap.size w W.drew ∧ w.heap.size + 2 ≤ W.drew.heap.size := by
  obtain ⟨c0, c1, c2, c3, c4, c5, hB, hz⟩ := h
  exact ⟨c0, c1, c2, c3, c4, c5, hB.drew, hz⟩
theorem lo_below {a b c x y z : Int} {w W : World} (h : W.cell? ⟨w.heap.size, 0, none⟩ = some (.int .i64 a) ∧ W.cell? ⟨w.heap.size, 1, none⟩ = some (.int .i64 b) ∧ W.cell? ⟨w.heap.size, 2, none⟩ = some (.int .i64 c) ∧ W.cell? ⟨w.heap.size + 1, 0, none⟩ = some (.int .i64 x) ∧ W.cell? ⟨w.heap.size + 1, 1, none⟩ = some (.int .i64 y) ∧ W.cell? ⟨w.heap.size + 1, 2, none⟩ = some (.int .i64 z) ∧ Below w.heap.size w W ∧ w.heap.size + 2 ≤ W.heap.size) : Below w.heap.size w W := by
  obtain ⟨c0, c1, c2, c3, c4, c5, hB, hz⟩ := h
  exact hB
theorem lo_size {a b c x y z : Int} {w W : World} (h : W.cell? ⟨w.heap.size, 0, none⟩ = some (.int .i64 a) ∧ W.cell? ⟨w.heap.size, 1, none⟩ = some (.int .i64 b) ∧ W.cell? ⟨w.heap.size, 2, none⟩ = some (.int .i64 c) ∧ W.cell? ⟨w.heap.size + 1, 0, none⟩ = some (.int .i64 x) ∧ W.cell? ⟨w.heap.size + 1, 1, none⟩ = some (.int .i64 y) ∧ W.cell? ⟨w.heap.size + 1, 2, none⟩ = some (.int .i64 z) ∧ Below w.heap.size w W ∧ w.heap.size + 2 ≤ W.heap.size) : w.heap.size + 2 ≤ W.heap.size := by
  obtain ⟨c0, c1, c2, c3, c4, c5, hB, hz⟩ := h
  exact hz

theorem lo_set {a b c x y z : Int} {w W : World} {t j : Nat} {u : Value} (h : W.cell? ⟨w.heap.size, 0, none⟩ = some (.int .i64 a) ∧ W.cell? ⟨w.heap.size, 1, none⟩ = some (.int .i64 b) ∧ W.cell? ⟨w.heap.size, 2, none⟩ = some (.int .i64 c) ∧ W.cell? ⟨w.heap.size + 1, 0, none⟩ = some (.int .i64 x) ∧ W.cell? ⟨w.heap.size + 1, 1, none⟩ = some (.int .i64 y) ∧ W.cell? ⟨w.heap.size + 1, 2, none⟩ = some (.int .i64 z) ∧ Below w.heap.size w W ∧ w.heap.size + 2 ≤ W.heap.size) (ht : w.heap.size + 2 ≤ t) : (W.setCell ⟨t, j, none⟩ u).cell? ⟨w.heap.size, 0, none⟩ = some (.int .i64 a) ∧ (W.setCell ⟨t, j, none⟩ u).cell? ⟨w.heap.size, 1, none⟩ = some (.int .i64 b) ∧ (W.setCell ⟨t, j, none⟩ u).cell? ⟨w.heap.size, 2, none⟩ = some (.int .i64 c) ∧ (W.setCell ⟨t, j, none⟩ u).cell? ⟨w.heap.size + 1, 0, none⟩ = some (.int .i64 x) ∧ (W.setCell ⟨t, j, none⟩ u).cell? ⟨w.heap.size + 1, 1, none⟩ = some (.int .i64 y) ∧ (W.setCell ⟨t, j, none⟩ u).cell? ⟨w.heap.size + 1, 2, none⟩ = some (.int .i64 z) ∧ Below w.heap.size w (W.setCell ⟨t, j, none⟩ u) ∧ w.heap.size + 2 ≤ (W.setCell ⟨t, j, none⟩ u).heap.size := by
  obtain ⟨c0, c1, c2, c3, c4, c5, hB, hz⟩ := h
  exact ⟨cell_set c0 (by omega), cell_set c1 (by omega), cell_set c2 (by omega), cell_set c3 (by omega), cell_set c4 (by omega), cell_set c5 (by omega), hB.setCell (by simp; omega) _, by simpa [World.setCell] using hz⟩

theorem lo_start {a b c x y z : Int} {w : World} : ((w.alloc (.cells #[.int .i64 a, .int .i64 b, .int .i64 c] 22)).alloc (.cells #[.int .i64 x, .int .i64 y, .int .i64 z] 22)).drew.cell? ⟨w.heap.size, 0, none⟩ = some (.int .i64 a) ∧ ((w.alloc (.cells #[.int .i64 a, .int .i64 b, .int .i64 c] 22)).alloc (.cells #[.int .i64 x, .int .i64 y, .int .i64 z] 22)).drew.cell? ⟨w.heap.size, 1, none⟩ = some (.int .i64 b) ∧ ((w.alloc (.cells #[.int .i64 a, .int .i64 b, .int .i64 c] 22)).alloc (.cells #[.int .i64 x, .int .i64 y, .int .i64 z] 22)).drew.cell? ⟨w.heap.size, 2, none⟩ = some (.int .i64 c) ∧ ((w.alloc (.cells #[.int .i64 a, .int .i64 b, .int .i64 c] 22)).alloc (.cells #[.int .i64 x, .int .i64 y, .int .i64 z] 22)).drew.cell? ⟨w.heap.size + 1, 0, none⟩ = some (.int .i64 x) ∧ ((w.alloc (.cells #[.int .i64 a, .int .i64 b, .int .i64 c] 22)).alloc (.cells #[.int .i64 x, .int .i64 y, .int .i64 z] 22)).drew.cell? ⟨w.heap.size + 1, 1, none⟩ = some (.int .i64 y) ∧ ((w.alloc (.cells #[.int .i64 a, .int .i64 b, .int .i64 c] 22)).alloc (.cells #[.int .i64 x, .int .i64 y, .int .i64 z] 22)).drew.cell? ⟨w.heap.size + 1, 2, none⟩ = some (.int .i64 z) ∧ Below w.heap.size w ((w.alloc (.cells #[.int .i64 a, .int .i64 b, .int .i64 c] 22)).alloc (.cells #[.int .i64 x, .int .i64 y, .int .i64 z] 22)).drew ∧ w.heap.size + 2 ≤ ((w.alloc (.cells #[.int .i64 a, .int .i64 b, .int .i64 c] 22)).alloc (.cells #[.int .i64 x, .int .i64 y, .int .i64 z] 22)).drew.heap.size := by
  refine ⟨?_, ?_, ?_, ?_, ?_, ?_, (((Below.refl _ _).alloc (by simp) _).alloc (by simp) _).drew, ?_⟩
  all_goals first | (go_simp; done) | (simp; done) | (simp; omega)
theorem lo_start0 {a b c x y z : Int} {w : World} : ((w.alloc (.cells #[.int .i64 a, .int .i64 b, .int .i64 c] 22)).alloc (.cells #[.int .i64 x, .int .i64 y, .int .i64 z] 22)).cell? ⟨w.heap.size, 0, none⟩ = some (.int .i64 a) ∧ ((w.alloc (.cells #[.int .i64 a, .int .i64 b, .int .i64 c] 22)).alloc (.cells #[.int .i64 x, .int .i64 y, .int .i64 z] 22)).cell? ⟨w.heap.size, 1, none⟩ = some (.int .i64 b) ∧ ((w.alloc (.cells #[.int .i64 a, .int .i64 b, .int .i64 c] 22)).alloc (.cells #[.int .i64 x, .int .i64 y, .int .i64 z] 22)).cell? ⟨w.heap.size, 2, none⟩ = some (.int .i64 c) ∧ ((w.alloc (.cells #[.int .i64 a, .int .i64 b, .int .i64 c] 22)).alloc (.cells #[.int .i64 x, .int .i64 y, .int .i64 z] 22)).cell? ⟨w.heap.size + 1, 0, none⟩ = some (.int .i64 x) ∧ ((w.alloc (.cells #[.int .i64 a, .int .i64 b, .int .i64 c] 22)).alloc (.cells #[.int .i64 x, .int .i64 y, .int .i64 z] 22)).cell? ⟨w.heap.size + 1, 1, none⟩ = some (.int .i64 y) ∧ ((w.alloc (.cells #[.int .i64 a, .int .i64 b, .int .i64 c] 22)).alloc (.cells #[.int .i64 x, .int .i64 y, .int .i64 z] 22)).cell? ⟨w.heap.size + 1, 2, none⟩ = some (.int .i64 z) ∧ Below w.heap.size w ((w.alloc (.cells #[.int .i64 a, .int .i64 b, .int .i64 c] 22)).alloc (.cells #[.int .i64 x, .int .i64 y, .int .i64 z] 22)) ∧ w.heap.size + 2 ≤ ((w.alloc (.cells #[.int .i64 a, .int .i64 b, .int .i64 c] 22)).alloc (.cells #[.int .i64 x, .int .i64 y, .int .i64 z] 22)).heap.size := by
  refine ⟨?_, ?_, ?_, ?_, ?_, ?_, (((Below.refl _ _).alloc (by simp) _).alloc (by simp) _), ?_⟩
  all_goals first | (go_simp; done) | (simp; done) | (simp; omega)


set_option maxHeartbeats 1000000 in
theorem vvorder_law (a b c : Int) (_wa : (Lit.int .i64 a).wf = true) (_wb : (Lit.int .i64 b).wf = true) (_wc : (Lit.int .i64 c).wf = true) (x y z : Int) (_wx : (Lit.int .i64 x).wf = true) (_wy : (Lit.int .i64 y).wf = true) (_wz : (Lit.int .i64 z).wf = true) (w : World) :
    Calls Try.prog 8 #[.agg #[.int .i64 a, .int .i64 b, .int .i64 c], .agg #[.int .i64 x, .int .i64 y, .int .i64 z]] w fun e w' => e = .returned (.bool true) ∧ Below w.heap.size w w' := by
  clear _wa _wb _wc _wx _wy _wz
  obtain ⟨m, hm⟩ : ∃ m, m = ordV (twoO a b c x y z) (ordR a b c x y z) := ⟨_, rfl⟩
  obtain ⟨k, hk⟩ : ∃ k, k = ordK (twoO a b c x y z) := ⟨_, rfl⟩
  have C1 := fun W => spec_order a b c x y z W
  have C2 := fun W => impl_order a b c x y z W
  rw [← hm, ← hk] at C1 C2
  have D1 : Hid (∀ W, Calls Try.prog 22 #[.agg #[.int .i64 a, .int .i64 b, .int .i64 c], .agg #[.int .i64 x, .int .i64 y, .int .i64 z]] W fun e w' => e = .returned (.tuple #[.int .i64 m, .int .i64 k]) ∧ Below W.heap.size W w') := C1
  have D2 : Hid (∀ W, Calls Try.prog 23 #[.agg #[.int .i64 a, .int .i64 b, .int .i64 c], .agg #[.int .i64 x, .int .i64 y, .int .i64 z]] W fun e w' => e = .returned (.tuple #[.int .i64 m, .int .i64 k]) ∧ Below W.heap.size W w') := C2
  clear C1 C2 hm hk
  go_enter Try.func8, Try.ntmps8
  go_wp2_with fail
  go_region_held3 (fun w' => w'.cell? ⟨w.heap.size, 0, none⟩ = some (.int .i64 a) ∧ w'.cell? ⟨w.heap.size, 1, none⟩ = some (.int .i64 b) ∧ w'.cell? ⟨w.heap.size, 2, none⟩ = some (.int .i64 c) ∧ w'.cell? ⟨w.heap.size + 1, 0, none⟩ = some (.int .i64 x) ∧ w'.cell? ⟨w.heap.size + 1, 1, none⟩ = some (.int .i64 y) ∧ w'.cell? ⟨w.heap.size + 1, 2, none⟩ = some (.int .i64 z) ∧ Below w.heap.size w w' ∧ w.heap.size + 2 ≤ w'.heap.size) (with_reducible first | assumption | exact lo_start | exact lo_drew (lo_alloc lo_start0) | (refine lo_drew (lo_alloc ?_); assumption) | (refine lo_drew ?_; assumption) | (refine lo_alloc ?_; assumption) | (refine lo_keep (by assumption) ?_; assumption) | (refine lo_set (lo_set (lo_set ?_ ?_) ?_) ?_; all_goals (first | assumption | omega))) (first | (go_at_call 10; refine (toVv_any _ _ _ _).mono ?_; rintro e w' ⟨rfl, hb⟩) | (go_at_call 22; refine (D1.out _).mono ?_; rintro e w' ⟨rfl, hb⟩))
  go_wp2_with fail
  go_region_held3 (fun w' => w'.cell? ⟨w.heap.size, 0, none⟩ = some (.int .i64 a) ∧ w'.cell? ⟨w.heap.size, 1, none⟩ = some (.int .i64 b) ∧ w'.cell? ⟨w.heap.size, 2, none⟩ = some (.int .i64 c) ∧ w'.cell? ⟨w.heap.size + 1, 0, none⟩ = some (.int .i64 x) ∧ w'.cell? ⟨w.heap.size + 1, 1, none⟩ = some (.int .i64 y) ∧ w'.cell? ⟨w.heap.size + 1, 2, none⟩ = some (.int .i64 z) ∧ Below w.heap.size w w' ∧ w.heap.size + 2 ≤ w'.heap.size) (with_reducible first | assumption | exact lo_start | exact lo_drew (lo_alloc lo_start0) | (refine lo_drew (lo_alloc ?_); assumption) | (refine lo_drew ?_; assumption) | (refine lo_alloc ?_; assumption) | (refine lo_keep (by assumption) ?_; assumption) | (refine lo_set (lo_set (lo_set ?_ ?_) ?_) ?_; all_goals (first | assumption | omega))) (first | (go_at_call 10; refine (toVv_any _ _ _ _).mono ?_; rintro e w' ⟨rfl, hb⟩) | (go_at_call 23; refine (D2.out _).mono ?_; rintro e w' ⟨rfl, hb⟩))
  go_wp2
  go_ret
  exact ⟨rfl, lo_below (by with_reducible assumption)⟩
end Go.Proofs.Ytcappnoghakdbah

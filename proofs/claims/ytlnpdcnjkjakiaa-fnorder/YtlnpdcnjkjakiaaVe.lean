/- What is known: each function of the program, whole. -/
import Derived.Test.YtlnpdcnjkjakiaaRows
import Derived.WalkKit
import Derived.WalkSpells
import Derived.WalkLawsBesides
import Derived.Deep.QuietTactic
import Derived.BigQuiet
import Derived.Deep.RegionHeld3
import Derived.LoopN
import Derived.RegionTactic
import Derived.BigRegion
import Derived.Laws.StructEq
import Derived.Test.YtlnpdcnjkjakiaaSrc
import Derived.Test.YtlnpdcnjkjakiaaVa
import Derived.Test.YtlnpdcnjkjakiaaVb
import Derived.Test.YtlnpdcnjkjakiaaVc
namespace Go.Proofs.Ytlnpdcnjkjakiaa
open Go.RowKit
set_option linter.unusedSimpArgs false
set_option linter.unusedVariables false

def twoO (a b c x y z : Int) : Bool := vvB a b c && vvB x y z

def ordR (a b c x y z : Int) : Int := (if a < x ∨ b < y ∨ c < z then 1 else 0) + (if x < a ∨ y < b ∨ z < c then 2 else 0)

def ordV (t : Bool) (r : Int) : Int := if t = true then r else 0

def ordK (t : Bool) : Int := if t = true then 0 else 1

theorem tri (a x : Int) : a < x ∨ a = x ∨ x < a := by omega

theorem l01_order_all (a b c x y z : Int) (w : World) :
    Calls Try.prog 25 #[.agg #[.int .i64 a, .int .i64 b, .int .i64 c], .agg #[.int .i64 x, .int .i64 y, .int .i64 z]] w fun e w' => e = .returned (.int .i64 (ordR a b c x y z)) ∧ Below w.heap.size w w' := by
  rcases tri a x with h0 | h0 | h0 <;> rcases tri b y with h1 | h1 | h1 <;> rcases tri c z with h2 | h2 | h2
  · have hr : 1 = ordR a b c x y z := by (unfold ordR; (repeat' split) <;> omega)
    exact (l01order_lll a b c x y z w h0 h1 h2).mono fun e w' ⟨he, hb⟩ => ⟨he.trans (ret_int hr), hb⟩
  · subst h2; have hr : 1 = ordR a b c x y c := by (unfold ordR; (repeat' split) <;> omega)
    exact (l01order_lle a b c x y w h0 h1).mono fun e w' ⟨he, hb⟩ => ⟨he.trans (ret_int hr), hb⟩
  · have hr : 3 = ordR a b c x y z := by (unfold ordR; (repeat' split) <;> omega)
    exact (l01order_llg a b c x y z w h0 h1 h2).mono fun e w' ⟨he, hb⟩ => ⟨he.trans (ret_int hr), hb⟩
  · subst h1; have hr : 1 = ordR a b c x b z := by (unfold ordR; (repeat' split) <;> omega)
    exact (l01order_lel a b c x z w h0 h2).mono fun e w' ⟨he, hb⟩ => ⟨he.trans (ret_int hr), hb⟩
  · subst h1; subst h2; have hr : 1 = ordR a b c x b c := by (unfold ordR; (repeat' split) <;> omega)
    exact (l01order_lee a b c x w h0).mono fun e w' ⟨he, hb⟩ => ⟨he.trans (ret_int hr), hb⟩
  · subst h1; have hr : 3 = ordR a b c x b z := by (unfold ordR; (repeat' split) <;> omega)
    exact (l01order_leg a b c x z w h0 h2).mono fun e w' ⟨he, hb⟩ => ⟨he.trans (ret_int hr), hb⟩
  · have hr : 3 = ordR a b c x y z := by (unfold ordR; (repeat' split) <;> omega)
    exact (l01order_lgl a b c x y z w h0 h1 h2).mono fun e w' ⟨he, hb⟩ => ⟨he.trans (ret_int hr), hb⟩
  · subst h2; have hr : 3 = ordR a b c x y c := by (unfold ordR; (repeat' split) <;> omega)
    exact (l01order_lge a b c x y w h0 h1).mono fun e w' ⟨he, hb⟩ => ⟨he.trans (ret_int hr), hb⟩
  · have hr : 3 = ordR a b c x y z := by (unfold ordR; (repeat' split) <;> omega)
    exact (l01order_lgg a b c x y z w h0 h1 h2).mono fun e w' ⟨he, hb⟩ => ⟨he.trans (ret_int hr), hb⟩
  · subst h0; have hr : 1 = ordR a b c a y z := by (unfold ordR; (repeat' split) <;> omega)
    exact (l01order_ell a b c y z w h1 h2).mono fun e w' ⟨he, hb⟩ => ⟨he.trans (ret_int hr), hb⟩
  · subst h0; subst h2; have hr : 1 = ordR a b c a y c := by (unfold ordR; (repeat' split) <;> omega)
    exact (l01order_ele a b c y w h1).mono fun e w' ⟨he, hb⟩ => ⟨he.trans (ret_int hr), hb⟩
  · subst h0; have hr : 3 = ordR a b c a y z := by (unfold ordR; (repeat' split) <;> omega)
    exact (l01order_elg a b c y z w h1 h2).mono fun e w' ⟨he, hb⟩ => ⟨he.trans (ret_int hr), hb⟩
  · subst h0; subst h1; have hr : 1 = ordR a b c a b z := by (unfold ordR; (repeat' split) <;> omega)
    exact (l01order_eel a b c z w h2).mono fun e w' ⟨he, hb⟩ => ⟨he.trans (ret_int hr), hb⟩
  · subst h0; subst h1; subst h2; have hr : 0 = ordR a b c a b c := by (unfold ordR; (repeat' split) <;> omega)
    exact (l01order_eee a b c w ).mono fun e w' ⟨he, hb⟩ => ⟨he.trans (ret_int hr), hb⟩
  · subst h0; subst h1; have hr : 2 = ordR a b c a b z := by (unfold ordR; (repeat' split) <;> omega)
    exact (l01order_eeg a b c z w h2).mono fun e w' ⟨he, hb⟩ => ⟨he.trans (ret_int hr), hb⟩
  · subst h0; have hr : 3 = ordR a b c a y z := by (unfold ordR; (repeat' split) <;> omega)
    exact (l01order_egl a b c y z w h1 h2).mono fun e w' ⟨he, hb⟩ => ⟨he.trans (ret_int hr), hb⟩
  · subst h0; subst h2; have hr : 2 = ordR a b c a y c := by (unfold ordR; (repeat' split) <;> omega)
    exact (l01order_ege a b c y w h1).mono fun e w' ⟨he, hb⟩ => ⟨he.trans (ret_int hr), hb⟩
  · subst h0; have hr : 2 = ordR a b c a y z := by (unfold ordR; (repeat' split) <;> omega)
    exact (l01order_egg a b c y z w h1 h2).mono fun e w' ⟨he, hb⟩ => ⟨he.trans (ret_int hr), hb⟩
  · have hr : 3 = ordR a b c x y z := by (unfold ordR; (repeat' split) <;> omega)
    exact (l01order_gll a b c x y z w h0 h1 h2).mono fun e w' ⟨he, hb⟩ => ⟨he.trans (ret_int hr), hb⟩
  · subst h2; have hr : 3 = ordR a b c x y c := by (unfold ordR; (repeat' split) <;> omega)
    exact (l01order_gle a b c x y w h0 h1).mono fun e w' ⟨he, hb⟩ => ⟨he.trans (ret_int hr), hb⟩
  · have hr : 3 = ordR a b c x y z := by (unfold ordR; (repeat' split) <;> omega)
    exact (l01order_glg a b c x y z w h0 h1 h2).mono fun e w' ⟨he, hb⟩ => ⟨he.trans (ret_int hr), hb⟩
  · subst h1; have hr : 3 = ordR a b c x b z := by (unfold ordR; (repeat' split) <;> omega)
    exact (l01order_gel a b c x z w h0 h2).mono fun e w' ⟨he, hb⟩ => ⟨he.trans (ret_int hr), hb⟩
  · subst h1; subst h2; have hr : 2 = ordR a b c x b c := by (unfold ordR; (repeat' split) <;> omega)
    exact (l01order_gee a b c x w h0).mono fun e w' ⟨he, hb⟩ => ⟨he.trans (ret_int hr), hb⟩
  · subst h1; have hr : 2 = ordR a b c x b z := by (unfold ordR; (repeat' split) <;> omega)
    exact (l01order_geg a b c x z w h0 h2).mono fun e w' ⟨he, hb⟩ => ⟨he.trans (ret_int hr), hb⟩
  · have hr : 3 = ordR a b c x y z := by (unfold ordR; (repeat' split) <;> omega)
    exact (l01order_ggl a b c x y z w h0 h1 h2).mono fun e w' ⟨he, hb⟩ => ⟨he.trans (ret_int hr), hb⟩
  · subst h2; have hr : 2 = ordR a b c x y c := by (unfold ordR; (repeat' split) <;> omega)
    exact (l01order_gge a b c x y w h0 h1).mono fun e w' ⟨he, hb⟩ => ⟨he.trans (ret_int hr), hb⟩
  · have hr : 2 = ordR a b c x y z := by (unfold ordR; (repeat' split) <;> omega)
    exact (l01order_ggg a b c x y z w h0 h1 h2).mono fun e w' ⟨he, hb⟩ => ⟨he.trans (ret_int hr), hb⟩

theorem impl_order_all (a b c x y z : Int) (w : World) (h : vvB a b c = true) (h' : vvB x y z = true) :
    Calls Try.prog 9 #[.agg #[.int .i64 a, .int .i64 b, .int .i64 c], .agg #[.int .i64 x, .int .i64 y, .int .i64 z]] w fun e w' => e = .returned (.tuple #[.int .i64 (ordR a b c x y z), .int .i64 0]) ∧ Below w.heap.size w w' := by
  rcases tri a x with h0 | h0 | h0 <;> rcases tri b y with h1 | h1 | h1 <;> rcases tri c z with h2 | h2 | h2
  · have hr : 1 = ordR a b c x y z := by (unfold ordR; (repeat' split) <;> omega)
    exact (impl_order_lll a b c x y z w h h' h0 h1 h2).mono fun e w' ⟨he, hb⟩ => ⟨he.trans (ret_ints hr rfl), hb⟩
  · subst h2; have hr : 1 = ordR a b c x y c := by (unfold ordR; (repeat' split) <;> omega)
    exact (impl_order_lle a b c x y w h h' h0 h1).mono fun e w' ⟨he, hb⟩ => ⟨he.trans (ret_ints hr rfl), hb⟩
  · have hr : 3 = ordR a b c x y z := by (unfold ordR; (repeat' split) <;> omega)
    exact (impl_order_llg a b c x y z w h h' h0 h1 h2).mono fun e w' ⟨he, hb⟩ => ⟨he.trans (ret_ints hr rfl), hb⟩
  · subst h1; have hr : 1 = ordR a b c x b z := by (unfold ordR; (repeat' split) <;> omega)
    exact (impl_order_lel a b c x z w h h' h0 h2).mono fun e w' ⟨he, hb⟩ => ⟨he.trans (ret_ints hr rfl), hb⟩
  · subst h1; subst h2; have hr : 1 = ordR a b c x b c := by (unfold ordR; (repeat' split) <;> omega)
    exact (impl_order_lee a b c x w h h' h0).mono fun e w' ⟨he, hb⟩ => ⟨he.trans (ret_ints hr rfl), hb⟩
  · subst h1; have hr : 3 = ordR a b c x b z := by (unfold ordR; (repeat' split) <;> omega)
    exact (impl_order_leg a b c x z w h h' h0 h2).mono fun e w' ⟨he, hb⟩ => ⟨he.trans (ret_ints hr rfl), hb⟩
  · have hr : 3 = ordR a b c x y z := by (unfold ordR; (repeat' split) <;> omega)
    exact (impl_order_lgl a b c x y z w h h' h0 h1 h2).mono fun e w' ⟨he, hb⟩ => ⟨he.trans (ret_ints hr rfl), hb⟩
  · subst h2; have hr : 3 = ordR a b c x y c := by (unfold ordR; (repeat' split) <;> omega)
    exact (impl_order_lge a b c x y w h h' h0 h1).mono fun e w' ⟨he, hb⟩ => ⟨he.trans (ret_ints hr rfl), hb⟩
  · have hr : 3 = ordR a b c x y z := by (unfold ordR; (repeat' split) <;> omega)
    exact (impl_order_lgg a b c x y z w h h' h0 h1 h2).mono fun e w' ⟨he, hb⟩ => ⟨he.trans (ret_ints hr rfl), hb⟩
  · subst h0; have hr : 1 = ordR a b c a y z := by (unfold ordR; (repeat' split) <;> omega)
    exact (impl_order_ell a b c y z w h h' h1 h2).mono fun e w' ⟨he, hb⟩ => ⟨he.trans (ret_ints hr rfl), hb⟩
  · subst h0; subst h2; have hr : 1 = ordR a b c a y c := by (unfold ordR; (repeat' split) <;> omega)
    exact (impl_order_ele a b c y w h h' h1).mono fun e w' ⟨he, hb⟩ => ⟨he.trans (ret_ints hr rfl), hb⟩
  · subst h0; have hr : 3 = ordR a b c a y z := by (unfold ordR; (repeat' split) <;> omega)
    exact (impl_order_elg a b c y z w h h' h1 h2).mono fun e w' ⟨he, hb⟩ => ⟨he.trans (ret_ints hr rfl), hb⟩
  · subst h0; subst h1; have hr : 1 = ordR a b c a b z := by (unfold ordR; (repeat' split) <;> omega)
    exact (impl_order_eel a b c z w h h' h2).mono fun e w' ⟨he, hb⟩ => ⟨he.trans (ret_ints hr rfl), hb⟩
  · subst h0; subst h1; subst h2; have hr : 0 = ordR a b c a b c := by (unfold ordR; (repeat' split) <;> omega)
    exact (impl_order_eee a b c w h h' ).mono fun e w' ⟨he, hb⟩ => ⟨he.trans (ret_ints hr rfl), hb⟩
  · subst h0; subst h1; have hr : 2 = ordR a b c a b z := by (unfold ordR; (repeat' split) <;> omega)
    exact (impl_order_eeg a b c z w h h' h2).mono fun e w' ⟨he, hb⟩ => ⟨he.trans (ret_ints hr rfl), hb⟩
  · subst h0; have hr : 3 = ordR a b c a y z := by (unfold ordR; (repeat' split) <;> omega)
    exact (impl_order_egl a b c y z w h h' h1 h2).mono fun e w' ⟨he, hb⟩ => ⟨he.trans (ret_ints hr rfl), hb⟩
  · subst h0; subst h2; have hr : 2 = ordR a b c a y c := by (unfold ordR; (repeat' split) <;> omega)
    exact (impl_order_ege a b c y w h h' h1).mono fun e w' ⟨he, hb⟩ => ⟨he.trans (ret_ints hr rfl), hb⟩
  · subst h0; have hr : 2 = ordR a b c a y z := by (unfold ordR; (repeat' split) <;> omega)
    exact (impl_order_egg a b c y z w h h' h1 h2).mono fun e w' ⟨he, hb⟩ => ⟨he.trans (ret_ints hr rfl), hb⟩
  · have hr : 3 = ordR a b c x y z := by (unfold ordR; (repeat' split) <;> omega)
    exact (impl_order_gll a b c x y z w h h' h0 h1 h2).mono fun e w' ⟨he, hb⟩ => ⟨he.trans (ret_ints hr rfl), hb⟩
  · subst h2; have hr : 3 = ordR a b c x y c := by (unfold ordR; (repeat' split) <;> omega)
    exact (impl_order_gle a b c x y w h h' h0 h1).mono fun e w' ⟨he, hb⟩ => ⟨he.trans (ret_ints hr rfl), hb⟩
  · have hr : 3 = ordR a b c x y z := by (unfold ordR; (repeat' split) <;> omega)
    exact (impl_order_glg a b c x y z w h h' h0 h1 h2).mono fun e w' ⟨he, hb⟩ => ⟨he.trans (ret_ints hr rfl), hb⟩
  · subst h1; have hr : 3 = ordR a b c x b z := by (unfold ordR; (repeat' split) <;> omega)
    exact (impl_order_gel a b c x z w h h' h0 h2).mono fun e w' ⟨he, hb⟩ => ⟨he.trans (ret_ints hr rfl), hb⟩
  · subst h1; subst h2; have hr : 2 = ordR a b c x b c := by (unfold ordR; (repeat' split) <;> omega)
    exact (impl_order_gee a b c x w h h' h0).mono fun e w' ⟨he, hb⟩ => ⟨he.trans (ret_ints hr rfl), hb⟩
  · subst h1; have hr : 2 = ordR a b c x b z := by (unfold ordR; (repeat' split) <;> omega)
    exact (impl_order_geg a b c x z w h h' h0 h2).mono fun e w' ⟨he, hb⟩ => ⟨he.trans (ret_ints hr rfl), hb⟩
  · have hr : 3 = ordR a b c x y z := by (unfold ordR; (repeat' split) <;> omega)
    exact (impl_order_ggl a b c x y z w h h' h0 h1 h2).mono fun e w' ⟨he, hb⟩ => ⟨he.trans (ret_ints hr rfl), hb⟩
  · subst h2; have hr : 2 = ordR a b c x y c := by (unfold ordR; (repeat' split) <;> omega)
    exact (impl_order_gge a b c x y w h h' h0 h1).mono fun e w' ⟨he, hb⟩ => ⟨he.trans (ret_ints hr rfl), hb⟩
  · have hr : 2 = ordR a b c x y z := by (unfold ordR; (repeat' split) <;> omega)
    exact (impl_order_ggg a b c x y z w h h' h0 h1 h2).mono fun e w' ⟨he, hb⟩ => ⟨he.trans (ret_ints hr rfl), hb⟩

theorem spec_order (a b c x y z : Int) (w : World) :
    Calls Try.prog 14 #[.agg #[.int .i64 a, .int .i64 b, .int .i64 c], .agg #[.int .i64 x, .int .i64 y, .int .i64 z]] w fun e w' => e = .returned (.tuple #[.int .i64 (ordV (twoO a b c x y z) (ordR a b c x y z)), .int .i64 (ordK (twoO a b c x y z))]) ∧ Below w.heap.size w w' := by
  cases h1 : vvB a b c
  · exact (spec_order_bad1 a b c x y z w h1).mono fun e w' ⟨he, hb⟩ => ⟨he.trans (ret_ints (by simp [ordV, twoO, h1]) (by simp [ordK, twoO, h1])), hb⟩
  · cases h2 : vvB x y z
    · exact (spec_order_bad2 a b c x y z w h1 h2).mono fun e w' ⟨he, hb⟩ => ⟨he.trans (ret_ints (by simp [ordV, twoO, h2]) (by simp [ordK, twoO, h2])), hb⟩
    · exact (spec_order_good a b c x y z _ w h1 h2 (fun W => l01_order_all a b c x y z W)).mono fun e w' ⟨he, hb⟩ => ⟨he.trans (ret_ints (by simp [ordV, twoO, h1, h2]) (by simp [ordK, twoO, h1, h2])), hb⟩

theorem impl_order (a b c x y z : Int) (w : World) :
    Calls Try.prog 9 #[.agg #[.int .i64 a, .int .i64 b, .int .i64 c], .agg #[.int .i64 x, .int .i64 y, .int .i64 z]] w fun e w' => e = .returned (.tuple #[.int .i64 (ordV (twoO a b c x y z) (ordR a b c x y z)), .int .i64 (ordK (twoO a b c x y z))]) ∧ Below w.heap.size w w' := by
  cases h1 : vvB a b c
  · exact (impl_order_bad1 a b c x y z w h1).mono fun e w' ⟨he, hb⟩ => ⟨he.trans (ret_ints (by simp [ordV, twoO, h1]) (by simp [ordK, twoO, h1])), hb⟩
  · cases h2 : vvB x y z
    · exact (impl_order_bad2 a b c x y z w h1 h2).mono fun e w' ⟨he, hb⟩ => ⟨he.trans (ret_ints (by simp [ordV, twoO, h2]) (by simp [ordK, twoO, h2])), hb⟩
    · exact (impl_order_all a b c x y z w h1 h2).mono fun e w' ⟨he, hb⟩ => ⟨he.trans (ret_ints (by simp [ordV, twoO, h1, h2]) (by simp [ordK, twoO, h1, h2])), hb⟩

theorem lo_keep {a b c x y z : Int} {w W W' : World} (hb : Below W.heap.size W W') (h : W.cell? ⟨w.heap.size, 0, none⟩ = some (.int .i64 a) ∧ W.cell? ⟨w.heap.size, 1, none⟩ = some (.int .i64 b) ∧ W.cell? ⟨w.heap.size, 2, none⟩ = some (.int .i64 c) ∧ W.cell? ⟨w.heap.size + 1, 0, none⟩ = some (.int .i64 x) ∧ W.cell? ⟨w.heap.size + 1, 1, none⟩ = some (.int .i64 y) ∧ W.cell? ⟨w.heap.size + 1, 2, none⟩ = some (.int .i64 z) ∧ Below w.heap.size w W ∧ w.heap.size + 2 ≤ W.heap.size) : W'.cell? ⟨w.heap.size, 0, none⟩ = some (.int .i64 a) ∧ W'.cell? ⟨w.heap.size, 1, none⟩ = some (.int .i64 b) ∧ W'.cell? ⟨w.heap.size, 2, none⟩ = some (.int .i64 c) ∧ W'.cell? ⟨w.heap.size + 1, 0, none⟩ = some (.int .i64 x) ∧ W'.cell? ⟨w.heap.size + 1, 1, none⟩ = some (.int .i64 y) ∧ W'.cell? ⟨w.heap.size + 1, 2, none⟩ = some (.int .i64 z) ∧ Below w.heap.size w W' ∧ w.heap.size + 2 ≤ W'.heap.size := by
  obtain ⟨c0, c1, c2, c3, c4, c5, hB, hz⟩ := h
  have hq := hb.size
  exact ⟨cell_next hb c0 (by omega), cell_next hb c1 (by omega), cell_next hb c2 (by omega), cell_next hb c3 (by omega), cell_next hb c4 (by omega), cell_next hb c5 (by omega), hB.trans (hb.mono (by omega)), by omega⟩

theorem lo_alloc {a b c x y z : Int} {w W : World} {ob : Obj} (h : W.cell? ⟨w.heap.size, 0, none⟩ = some (.int .i64 a) ∧ W.cell? ⟨w.heap.size, 1, none⟩ = some (.int .i64 b) ∧ W.cell? ⟨w.heap.size, 2, none⟩ = some (.int .i64 c) ∧ W.cell? ⟨w.heap.size + 1, 0, none⟩ = some (.int .i64 x) ∧ W.cell? ⟨w.heap.size + 1, 1, none⟩ = some (.int .i64 y) ∧ W.cell? ⟨w.heap.size + 1, 2, none⟩ = some (.int .i64 z) ∧ Below w.heap.size w W ∧ w.heap.size + 2 ≤ W.heap.size) : (W.alloc ob).cell? ⟨w.heap.size, 0, none⟩ = some (.int .i64 a) ∧ (W.alloc ob).cell? ⟨w.heap.size, 1, none⟩ = some (.int .i64 b) ∧ (W.alloc ob).cell? ⟨w.heap.size, 2, none⟩ = some (.int .i64 c) ∧ (W.alloc ob).cell? ⟨w.heap.size + 1, 0, none⟩ = some (.int .i64 x) ∧ (W.alloc ob).cell? ⟨w.heap.size + 1, 1, none⟩ = some (.int .i64 y) ∧ (W.alloc ob).cell? ⟨w.heap.size + 1, 2, none⟩ = some (.int .i64 z) ∧ Below w.heap.size w (W.alloc ob) ∧ w.heap.size + 2 ≤ (W.alloc ob).heap.size := lo_keep ((Below.refl _ _).alloc (Nat.le_refl _) _) h

theorem lo_drew {a b c x y z : Int} {w W : World} (h : W.cell? ⟨w.heap.size, 0, none⟩ = some (.int .i64 a) ∧ W.cell? ⟨w.heap.size, 1, none⟩ = some (.int .i64 b) ∧ W.cell? ⟨w.heap.size, 2, none⟩ = some (.int .i64 c) ∧ W.cell? ⟨w.heap.size + 1, 0, none⟩ = some (.int .i64 x) ∧ W.cell? ⟨w.heap.size + 1, 1, none⟩ = some (.int .i64 y) ∧ W.cell? ⟨w.heap.size + 1, 2, none⟩ = some (.int .i64 z) ∧ Below w.heap.size w W ∧ w.heap.size + 2 ≤ W.heap.size) : W.drew.cell? ⟨w.heap.size, 0, none⟩ = some (.int .i64 a) ∧ W.drew.cell? ⟨w.heap.size, 1, none⟩ = some (.int .i64 b) ∧ W.drew.cell? ⟨w.heap.size, 2, none⟩ = some (.int .i64 c) ∧ W.drew.cell? ⟨w.heap.size + 1, 0, none⟩ = some (.int .i64 x) ∧ W.drew.cell? ⟨w.heap.size + 1, 1, none⟩ = some (.int .i64 y) ∧ W.drew.cell? ⟨w.heap.size + 1, 2, none⟩ = some (.int .i64 z) ∧ Below w.heap.size w W.drew ∧ w.heap.size + 2 ≤ W.drew.heap.size := by
  obtain ⟨c0, c1, c2, c3, c4, c5, hB, hz⟩ := h
  exact ⟨c0, c1, c2, c3, c4, c5, hB.drew, hz⟩

theorem lo_below {a b c x y z : Int} {w W : World} (h : W.cell? ⟨w.heap.size, 0, none⟩ = some (.int .i64 a) ∧ W.cell? ⟨w.heap.size, 1, none⟩ = some (.int .i64 b) ∧ W.cell? ⟨w.heap.size, 2, none⟩ = some (.int .i64 c) ∧ W.cell? ⟨w.heap.size + 1, 0, none⟩ = some (.int .i64 x) ∧ W.cell? ⟨w.heap.size + 1, 1, none⟩ = some (.int .i64 y) ∧ W.cell? ⟨w.heap.size + 1, 2, none⟩ = some (.int .i64 z) ∧ Below w.heap.size w W ∧ w.heap.size + 2 ≤ W.heap.size) : Below w.heap.size w W := by
  obtain ⟨c0, c1, c2, c3, c4, c5, hB, hz⟩ := h
  exact hB

theorem lo_size {a b c x y z : Int} {w W : World} (h : W.cell? ⟨w.heap.size, 0, none⟩ = some (.int .i64 a) ∧ W.cell? ⟨w.heap.size, 1, none⟩ = some (.int .i64 b) ∧ W.cell? ⟨w.heap.size, 2, none⟩ = some (.int .i64 c) ∧ W.cell? ⟨w.heap.size + 1, 0, none⟩ = some (.int .i64 x) ∧ W.cell? ⟨w.heap.size + 1, 1, none⟩ = some (.int .i64 y) ∧ W.cell? ⟨w.heap.size + 1, 2, none⟩ = some (.int .i64 z) ∧ Below w.heap.size w W ∧ w.heap.size + 2 ≤ W.heap.size) : w.heap.size + 2 ≤ W.heap.size := by
  obtain ⟨c0, c1, c2, c3, c4, c5, hB, hz⟩ := h
  exact hz

theorem lo_set {a b c x y z : Int} {w W : World} {t j : Nat} {u : Value} (h : W.cell? ⟨w.heap.size, 0, none⟩ = some (.int .i64 a) ∧ W.cell? ⟨w.heap.size, 1, none⟩ = some (.int .i64 b) ∧ W.cell? ⟨w.heap.size, 2, none⟩ = some (.int .i64 c) ∧ W.cell? ⟨w.heap.size + 1, 0, none⟩ = some (.int .i64 x) ∧ W.cell? ⟨w.heap.size + 1, 1, none⟩ = some (.int .i64 y) ∧ W.cell? ⟨w.heap.size + 1, 2, none⟩ = some (.int .i64 z) ∧ Below w.heap.size w W ∧ w.heap.size + 2 ≤ W.heap.size) (ht : w.heap.size + 2 ≤ t) : (W.setCell ⟨t, j, none⟩ u).cell? ⟨w.heap.size, 0, none⟩ = some (.int .i64 a) ∧ (W.setCell ⟨t, j, none⟩ u).cell? ⟨w.heap.size, 1, none⟩ = some (.int .i64 b) ∧ (W.setCell ⟨t, j, none⟩ u).cell? ⟨w.heap.size, 2, none⟩ = some (.int .i64 c) ∧ (W.setCell ⟨t, j, none⟩ u).cell? ⟨w.heap.size + 1, 0, none⟩ = some (.int .i64 x) ∧ (W.setCell ⟨t, j, none⟩ u).cell? ⟨w.heap.size + 1, 1, none⟩ = some (.int .i64 y) ∧ (W.setCell ⟨t, j, none⟩ u).cell? ⟨w.heap.size + 1, 2, none⟩ = some (.int .i64 z) ∧ Below w.heap.size w (W.setCell ⟨t, j, none⟩ u) ∧ w.heap.size + 2 ≤ (W.setCell ⟨t, j, none⟩ u).heap.size := by
  obtain ⟨c0, c1, c2, c3, c4, c5, hB, hz⟩ := h
  exact ⟨cell_set c0 (by omega), cell_set c1 (by omega), cell_set c2 (by omega), cell_set c3 (by omega), cell_set c4 (by omega), cell_set c5 (by omega), hB.setCell (by simp; omega) _, by simpa [World.setCell] using hz⟩

theorem bcell3 {W w1 : World} (hb : Below W.heap.size W w1) : (∀ b o, b < W.heap.size → w1.cell? ⟨b, o, none⟩ = W.cell? ⟨b, o, none⟩) ∧ (∀ b o, b < W.heap.size → w1.frozen? ⟨b, o, none⟩ = W.frozen? ⟨b, o, none⟩) ∧ (∀ b, b < W.heap.size → b < w1.heap.size) :=
  ⟨fun b o h => hb.cell (p := ⟨b, o, none⟩) h, fun b o h => hb.frozen (p := ⟨b, o, none⟩) h, fun b h => Nat.lt_of_lt_of_le h hb.size⟩

def mxI (a b : Int) : Int := if a < b then b else a

def mnI (a b : Int) : Int := if b < a then b else a

def twoB (a b c x y z : Int) : Bool := vvB a b c && vvB x y z

def maxV (t : Bool) (a x : Int) : Int := if t = true then mxI a x else 0

def minV (t : Bool) (a x : Int) : Int := if t = true then mnI a x else 0

def okC (t : Bool) : Int := if t = true then 0 else 1

theorem mx_or (a x : Int) : (a < x ∧ mxI a x = x) ∨ (x ≤ a ∧ mxI a x = a) := by unfold mxI; by_cases h : a < x <;> simp [h]; omega

theorem mn_or (a x : Int) : (x < a ∧ mnI a x = x) ∨ (a ≤ x ∧ mnI a x = a) := by unfold mnI; by_cases h : x < a <;> simp [h]; omega

theorem impl_max (a b c x y z : Int) (w : World) :
    Calls Try.prog 7 #[.agg #[.int .i64 a, .int .i64 b, .int .i64 c], .agg #[.int .i64 x, .int .i64 y, .int .i64 z]] w fun e w' => e = .returned (.tuple #[.agg #[.int .i64 (maxV (twoB a b c x y z) a x), .int .i64 (maxV (twoB a b c x y z) b y), .int .i64 (maxV (twoB a b c x y z) c z)], .int .i64 (okC (twoB a b c x y z))]) ∧ Below w.heap.size w w' := by
  cases h1 : vvB a b c
  · exact (impl_max_bad1 a b c x y z w h1).mono fun e w' ⟨he, hb⟩ => ⟨he.trans (ret_vint (by simp [maxV, twoB, h1]) (by simp [maxV, twoB, h1]) (by simp [maxV, twoB, h1]) (by simp [okC, twoB, h1])), hb⟩
  · cases h2 : vvB x y z
    · exact (impl_max_bad2 a b c x y z w h1 h2).mono fun e w' ⟨he, hb⟩ => ⟨he.trans (ret_vint (by simp [maxV, twoB, h2]) (by simp [maxV, twoB, h2]) (by simp [maxV, twoB, h2]) (by simp [okC, twoB, h2])), hb⟩
    · exact (impl_max_good a b c x y z _ _ _ w h1 h2 (mx_or a x) (mx_or b y) (mx_or c z)).mono fun e w' ⟨he, hb⟩ => ⟨he.trans (ret_vint (by simp [maxV, twoB, h1, h2]) (by simp [maxV, twoB, h1, h2]) (by simp [maxV, twoB, h1, h2]) (by simp [okC, twoB, h1, h2])), hb⟩

theorem impl_min (a b c x y z : Int) (w : World) :
    Calls Try.prog 8 #[.agg #[.int .i64 a, .int .i64 b, .int .i64 c], .agg #[.int .i64 x, .int .i64 y, .int .i64 z]] w fun e w' => e = .returned (.tuple #[.agg #[.int .i64 (minV (twoB a b c x y z) a x), .int .i64 (minV (twoB a b c x y z) b y), .int .i64 (minV (twoB a b c x y z) c z)], .int .i64 (okC (twoB a b c x y z))]) ∧ Below w.heap.size w w' := by
  cases h1 : vvB a b c
  · exact (impl_min_bad1 a b c x y z w h1).mono fun e w' ⟨he, hb⟩ => ⟨he.trans (ret_vint (by simp [minV, twoB, h1]) (by simp [minV, twoB, h1]) (by simp [minV, twoB, h1]) (by simp [okC, twoB, h1])), hb⟩
  · cases h2 : vvB x y z
    · exact (impl_min_bad2 a b c x y z w h1 h2).mono fun e w' ⟨he, hb⟩ => ⟨he.trans (ret_vint (by simp [minV, twoB, h2]) (by simp [minV, twoB, h2]) (by simp [minV, twoB, h2]) (by simp [okC, twoB, h2])), hb⟩
    · exact (impl_min_good a b c x y z _ _ _ w h1 h2 (mn_or a x) (mn_or b y) (mn_or c z)).mono fun e w' ⟨he, hb⟩ => ⟨he.trans (ret_vint (by simp [minV, twoB, h1, h2]) (by simp [minV, twoB, h1, h2]) (by simp [minV, twoB, h1, h2]) (by simp [okC, twoB, h1, h2])), hb⟩

theorem lv_keep {a b c x y z : Int} {w W W' : World} (hb : Below W.heap.size W W') (h : W.cell? ⟨w.heap.size, 0, none⟩ = some (.int .i64 a) ∧ W.cell? ⟨w.heap.size, 1, none⟩ = some (.int .i64 b) ∧ W.cell? ⟨w.heap.size, 2, none⟩ = some (.int .i64 c) ∧ W.cell? ⟨w.heap.size + 1, 0, none⟩ = some (.int .i64 x) ∧ W.cell? ⟨w.heap.size + 1, 1, none⟩ = some (.int .i64 y) ∧ W.cell? ⟨w.heap.size + 1, 2, none⟩ = some (.int .i64 z) ∧ Below w.heap.size w W ∧ w.heap.size + 2 ≤ W.heap.size) : W'.cell? ⟨w.heap.size, 0, none⟩ = some (.int .i64 a) ∧ W'.cell? ⟨w.heap.size, 1, none⟩ = some (.int .i64 b) ∧ W'.cell? ⟨w.heap.size, 2, none⟩ = some (.int .i64 c) ∧ W'.cell? ⟨w.heap.size + 1, 0, none⟩ = some (.int .i64 x) ∧ W'.cell? ⟨w.heap.size + 1, 1, none⟩ = some (.int .i64 y) ∧ W'.cell? ⟨w.heap.size + 1, 2, none⟩ = some (.int .i64 z) ∧ Below w.heap.size w W' ∧ w.heap.size + 2 ≤ W'.heap.size := by
  obtain ⟨c0, c1, c2, c3, c4, c5, hB, hz⟩ := h
  have hq := hb.size
  exact ⟨cell_next hb c0 (by omega), cell_next hb c1 (by omega), cell_next hb c2 (by omega), cell_next hb c3 (by omega), cell_next hb c4 (by omega), cell_next hb c5 (by omega), hB.trans (hb.mono (by omega)), by omega⟩

theorem lv_alloc {a b c x y z : Int} {w W : World} {ob : Obj} (h : W.cell? ⟨w.heap.size, 0, none⟩ = some (.int .i64 a) ∧ W.cell? ⟨w.heap.size, 1, none⟩ = some (.int .i64 b) ∧ W.cell? ⟨w.heap.size, 2, none⟩ = some (.int .i64 c) ∧ W.cell? ⟨w.heap.size + 1, 0, none⟩ = some (.int .i64 x) ∧ W.cell? ⟨w.heap.size + 1, 1, none⟩ = some (.int .i64 y) ∧ W.cell? ⟨w.heap.size + 1, 2, none⟩ = some (.int .i64 z) ∧ Below w.heap.size w W ∧ w.heap.size + 2 ≤ W.heap.size) : (W.alloc ob).cell? ⟨w.heap.size, 0, none⟩ = some (.int .i64 a) ∧ (W.alloc ob).cell? ⟨w.heap.size, 1, none⟩ = some (.int .i64 b) ∧ (W.alloc ob).cell? ⟨w.heap.size, 2, none⟩ = some (.int .i64 c) ∧ (W.alloc ob).cell? ⟨w.heap.size + 1, 0, none⟩ = some (.int .i64 x) ∧ (W.alloc ob).cell? ⟨w.heap.size + 1, 1, none⟩ = some (.int .i64 y) ∧ (W.alloc ob).cell? ⟨w.heap.size + 1, 2, none⟩ = some (.int .i64 z) ∧ Below w.heap.size w (W.alloc ob) ∧ w.heap.size + 2 ≤ (W.alloc ob).heap.size := lv_keep ((Below.refl _ _).alloc (Nat.le_refl _) _) h

theorem lv_drew {a b c x y z : Int} {w W : World} (h : W.cell? ⟨w.heap.size, 0, none⟩ = some (.int .i64 a) ∧ W.cell? ⟨w.heap.size, 1, none⟩ = some (.int .i64 b) ∧ W.cell? ⟨w.heap.size, 2, none⟩ = some (.int .i64 c) ∧ W.cell? ⟨w.heap.size + 1, 0, none⟩ = some (.int .i64 x) ∧ W.cell? ⟨w.heap.size + 1, 1, none⟩ = some (.int .i64 y) ∧ W.cell? ⟨w.heap.size + 1, 2, none⟩ = some (.int .i64 z) ∧ Below w.heap.size w W ∧ w.heap.size + 2 ≤ W.heap.size) : W.drew.cell? ⟨w.heap.size, 0, none⟩ = some (.int .i64 a) ∧ W.drew.cell? ⟨w.heap.size, 1, none⟩ = some (.int .i64 b) ∧ W.drew.cell? ⟨w.heap.size, 2, none⟩ = some (.int .i64 c) ∧ W.drew.cell? ⟨w.heap.size + 1, 0, none⟩ = some (.int .i64 x) ∧ W.drew.cell? ⟨w.heap.size + 1, 1, none⟩ = some (.int .i64 y) ∧ W.drew.cell? ⟨w.heap.size + 1, 2, none⟩ = some (.int .i64 z) ∧ Below w.heap.size w W.drew ∧ w.heap.size + 2 ≤ W.drew.heap.size := by
  obtain ⟨c0, c1, c2, c3, c4, c5, hB, hz⟩ := h
  exact ⟨c0, c1, c2, c3, c4, c5, hB.drew, hz⟩

theorem lv_below {a b c x y z : Int} {w W : World} (h : W.cell? ⟨w.heap.size, 0, none⟩ = some (.int .i64 a) ∧ W.cell? ⟨w.heap.size, 1, none⟩ = some (.int .i64 b) ∧ W.cell? ⟨w.heap.size, 2, none⟩ = some (.int .i64 c) ∧ W.cell? ⟨w.heap.size + 1, 0, none⟩ = some (.int .i64 x) ∧ W.cell? ⟨w.heap.size + 1, 1, none⟩ = some (.int .i64 y) ∧ W.cell? ⟨w.heap.size + 1, 2, none⟩ = some (.int .i64 z) ∧ Below w.heap.size w W ∧ w.heap.size + 2 ≤ W.heap.size) : Below w.heap.size w W := by
  obtain ⟨c0, c1, c2, c3, c4, c5, hB, hz⟩ := h
  exact hB

theorem lv_size {a b c x y z : Int} {w W : World} (h : W.cell? ⟨w.heap.size, 0, none⟩ = some (.int .i64 a) ∧ W.cell? ⟨w.heap.size, 1, none⟩ = some (.int .i64 b) ∧ W.cell? ⟨w.heap.size, 2, none⟩ = some (.int .i64 c) ∧ W.cell? ⟨w.heap.size + 1, 0, none⟩ = some (.int .i64 x) ∧ W.cell? ⟨w.heap.size + 1, 1, none⟩ = some (.int .i64 y) ∧ W.cell? ⟨w.heap.size + 1, 2, none⟩ = some (.int .i64 z) ∧ Below w.heap.size w W ∧ w.heap.size + 2 ≤ W.heap.size) : w.heap.size + 2 ≤ W.heap.size := by
  obtain ⟨c0, c1, c2, c3, c4, c5, hB, hz⟩ := h
  exact hz

theorem lv_set {a b c x y z : Int} {w W : World} {t j : Nat} {u : Value} (h : W.cell? ⟨w.heap.size, 0, none⟩ = some (.int .i64 a) ∧ W.cell? ⟨w.heap.size, 1, none⟩ = some (.int .i64 b) ∧ W.cell? ⟨w.heap.size, 2, none⟩ = some (.int .i64 c) ∧ W.cell? ⟨w.heap.size + 1, 0, none⟩ = some (.int .i64 x) ∧ W.cell? ⟨w.heap.size + 1, 1, none⟩ = some (.int .i64 y) ∧ W.cell? ⟨w.heap.size + 1, 2, none⟩ = some (.int .i64 z) ∧ Below w.heap.size w W ∧ w.heap.size + 2 ≤ W.heap.size) (ht : w.heap.size + 2 ≤ t) : (W.setCell ⟨t, j, none⟩ u).cell? ⟨w.heap.size, 0, none⟩ = some (.int .i64 a) ∧ (W.setCell ⟨t, j, none⟩ u).cell? ⟨w.heap.size, 1, none⟩ = some (.int .i64 b) ∧ (W.setCell ⟨t, j, none⟩ u).cell? ⟨w.heap.size, 2, none⟩ = some (.int .i64 c) ∧ (W.setCell ⟨t, j, none⟩ u).cell? ⟨w.heap.size + 1, 0, none⟩ = some (.int .i64 x) ∧ (W.setCell ⟨t, j, none⟩ u).cell? ⟨w.heap.size + 1, 1, none⟩ = some (.int .i64 y) ∧ (W.setCell ⟨t, j, none⟩ u).cell? ⟨w.heap.size + 1, 2, none⟩ = some (.int .i64 z) ∧ Below w.heap.size w (W.setCell ⟨t, j, none⟩ u) ∧ w.heap.size + 2 ≤ (W.setCell ⟨t, j, none⟩ u).heap.size := by
  obtain ⟨c0, c1, c2, c3, c4, c5, hB, hz⟩ := h
  exact ⟨cell_set c0 (by omega), cell_set c1 (by omega), cell_set c2 (by omega), cell_set c3 (by omega), cell_set c4 (by omega), cell_set c5 (by omega), hB.setCell (by simp; omega) _, by simpa [World.setCell] using hz⟩

theorem lg_keep {g : Nat} {a b c x y z m n o : Int} {w W W' : World} (hb : Below W.heap.size W W') (h : W.cell? ⟨w.heap.size, 0, none⟩ = some (.int .i64 a) ∧ W.cell? ⟨w.heap.size, 1, none⟩ = some (.int .i64 b) ∧ W.cell? ⟨w.heap.size, 2, none⟩ = some (.int .i64 c) ∧ W.cell? ⟨w.heap.size + 1, 0, none⟩ = some (.int .i64 x) ∧ W.cell? ⟨w.heap.size + 1, 1, none⟩ = some (.int .i64 y) ∧ W.cell? ⟨w.heap.size + 1, 2, none⟩ = some (.int .i64 z) ∧ W.cell? ⟨g, 0, none⟩ = some (.int .i64 m) ∧ W.cell? ⟨g, 1, none⟩ = some (.int .i64 n) ∧ W.cell? ⟨g, 2, none⟩ = some (.int .i64 o) ∧ g < W.heap.size ∧ Below w.heap.size w W ∧ w.heap.size + 2 ≤ W.heap.size) : W'.cell? ⟨w.heap.size, 0, none⟩ = some (.int .i64 a) ∧ W'.cell? ⟨w.heap.size, 1, none⟩ = some (.int .i64 b) ∧ W'.cell? ⟨w.heap.size, 2, none⟩ = some (.int .i64 c) ∧ W'.cell? ⟨w.heap.size + 1, 0, none⟩ = some (.int .i64 x) ∧ W'.cell? ⟨w.heap.size + 1, 1, none⟩ = some (.int .i64 y) ∧ W'.cell? ⟨w.heap.size + 1, 2, none⟩ = some (.int .i64 z) ∧ W'.cell? ⟨g, 0, none⟩ = some (.int .i64 m) ∧ W'.cell? ⟨g, 1, none⟩ = some (.int .i64 n) ∧ W'.cell? ⟨g, 2, none⟩ = some (.int .i64 o) ∧ g < W'.heap.size ∧ Below w.heap.size w W' ∧ w.heap.size + 2 ≤ W'.heap.size := by
  obtain ⟨c0, c1, c2, c3, c4, c5, c6, c7, c8, g0, hB, hz⟩ := h
  have hq := hb.size
  exact ⟨cell_next hb c0 (by omega), cell_next hb c1 (by omega), cell_next hb c2 (by omega), cell_next hb c3 (by omega), cell_next hb c4 (by omega), cell_next hb c5 (by omega), cell_next hb c6 (by omega), cell_next hb c7 (by omega), cell_next hb c8 (by omega), by omega, hB.trans (hb.mono (by omega)), by omega⟩

theorem lg_alloc {g : Nat} {a b c x y z m n o : Int} {w W : World} {ob : Obj} (h : W.cell? ⟨w.heap.size, 0, none⟩ = some (.int .i64 a) ∧ W.cell? ⟨w.heap.size, 1, none⟩ = some (.int .i64 b) ∧ W.cell? ⟨w.heap.size, 2, none⟩ = some (.int .i64 c) ∧ W.cell? ⟨w.heap.size + 1, 0, none⟩ = some (.int .i64 x) ∧ W.cell? ⟨w.heap.size + 1, 1, none⟩ = some (.int .i64 y) ∧ W.cell? ⟨w.heap.size + 1, 2, none⟩ = some (.int .i64 z) ∧ W.cell? ⟨g, 0, none⟩ = some (.int .i64 m) ∧ W.cell? ⟨g, 1, none⟩ = some (.int .i64 n) ∧ W.cell? ⟨g, 2, none⟩ = some (.int .i64 o) ∧ g < W.heap.size ∧ Below w.heap.size w W ∧ w.heap.size + 2 ≤ W.heap.size) : (W.alloc ob).cell? ⟨w.heap.size, 0, none⟩ = some (.int .i64 a) ∧ (W.alloc ob).cell? ⟨w.heap.size, 1, none⟩ = some (.int .i64 b) ∧ (W.alloc ob).cell? ⟨w.heap.size, 2, none⟩ = some (.int .i64 c) ∧ (W.alloc ob).cell? ⟨w.heap.size + 1, 0, none⟩ = some (.int .i64 x) ∧ (W.alloc ob).cell? ⟨w.heap.size + 1, 1, none⟩ = some (.int .i64 y) ∧ (W.alloc ob).cell? ⟨w.heap.size + 1, 2, none⟩ = some (.int .i64 z) ∧ (W.alloc ob).cell? ⟨g, 0, none⟩ = some (.int .i64 m) ∧ (W.alloc ob).cell? ⟨g, 1, none⟩ = some (.int .i64 n) ∧ (W.alloc ob).cell? ⟨g, 2, none⟩ = some (.int .i64 o) ∧ g < (W.alloc ob).heap.size ∧ Below w.heap.size w (W.alloc ob) ∧ w.heap.size + 2 ≤ (W.alloc ob).heap.size := lg_keep ((Below.refl _ _).alloc (Nat.le_refl _) _) h

theorem lg_drew {g : Nat} {a b c x y z m n o : Int} {w W : World} (h : W.cell? ⟨w.heap.size, 0, none⟩ = some (.int .i64 a) ∧ W.cell? ⟨w.heap.size, 1, none⟩ = some (.int .i64 b) ∧ W.cell? ⟨w.heap.size, 2, none⟩ = some (.int .i64 c) ∧ W.cell? ⟨w.heap.size + 1, 0, none⟩ = some (.int .i64 x) ∧ W.cell? ⟨w.heap.size + 1, 1, none⟩ = some (.int .i64 y) ∧ W.cell? ⟨w.heap.size + 1, 2, none⟩ = some (.int .i64 z) ∧ W.cell? ⟨g, 0, none⟩ = some (.int .i64 m) ∧ W.cell? ⟨g, 1, none⟩ = some (.int .i64 n) ∧ W.cell? ⟨g, 2, none⟩ = some (.int .i64 o) ∧ g < W.heap.size ∧ Below w.heap.size w W ∧ w.heap.size + 2 ≤ W.heap.size) : W.drew.cell? ⟨w.heap.size, 0, none⟩ = some (.int .i64 a) ∧ W.drew.cell? ⟨w.heap.size, 1, none⟩ = some (.int .i64 b) ∧ W.drew.cell? ⟨w.heap.size, 2, none⟩ = some (.int .i64 c) ∧ W.drew.cell? ⟨w.heap.size + 1, 0, none⟩ = some (.int .i64 x) ∧ W.drew.cell? ⟨w.heap.size + 1, 1, none⟩ = some (.int .i64 y) ∧ W.drew.cell? ⟨w.heap.size + 1, 2, none⟩ = some (.int .i64 z) ∧ W.drew.cell? ⟨g, 0, none⟩ = some (.int .i64 m) ∧ W.drew.cell? ⟨g, 1, none⟩ = some (.int .i64 n) ∧ W.drew.cell? ⟨g, 2, none⟩ = some (.int .i64 o) ∧ g < W.drew.heap.size ∧ Below w.heap.size w W.drew ∧ w.heap.size + 2 ≤ W.drew.heap.size := by
  obtain ⟨c0, c1, c2, c3, c4, c5, c6, c7, c8, g0, hB, hz⟩ := h
  exact ⟨c0, c1, c2, c3, c4, c5, c6, c7, c8, g0, hB.drew, hz⟩

theorem lg_below {g : Nat} {a b c x y z m n o : Int} {w W : World} (h : W.cell? ⟨w.heap.size, 0, none⟩ = some (.int .i64 a) ∧ W.cell? ⟨w.heap.size, 1, none⟩ = some (.int .i64 b) ∧ W.cell? ⟨w.heap.size, 2, none⟩ = some (.int .i64 c) ∧ W.cell? ⟨w.heap.size + 1, 0, none⟩ = some (.int .i64 x) ∧ W.cell? ⟨w.heap.size + 1, 1, none⟩ = some (.int .i64 y) ∧ W.cell? ⟨w.heap.size + 1, 2, none⟩ = some (.int .i64 z) ∧ W.cell? ⟨g, 0, none⟩ = some (.int .i64 m) ∧ W.cell? ⟨g, 1, none⟩ = some (.int .i64 n) ∧ W.cell? ⟨g, 2, none⟩ = some (.int .i64 o) ∧ g < W.heap.size ∧ Below w.heap.size w W ∧ w.heap.size + 2 ≤ W.heap.size) : Below w.heap.size w W := by
  obtain ⟨c0, c1, c2, c3, c4, c5, c6, c7, c8, g0, hB, hz⟩ := h
  exact hB

theorem lg_size {g : Nat} {a b c x y z m n o : Int} {w W : World} (h : W.cell? ⟨w.heap.size, 0, none⟩ = some (.int .i64 a) ∧ W.cell? ⟨w.heap.size, 1, none⟩ = some (.int .i64 b) ∧ W.cell? ⟨w.heap.size, 2, none⟩ = some (.int .i64 c) ∧ W.cell? ⟨w.heap.size + 1, 0, none⟩ = some (.int .i64 x) ∧ W.cell? ⟨w.heap.size + 1, 1, none⟩ = some (.int .i64 y) ∧ W.cell? ⟨w.heap.size + 1, 2, none⟩ = some (.int .i64 z) ∧ W.cell? ⟨g, 0, none⟩ = some (.int .i64 m) ∧ W.cell? ⟨g, 1, none⟩ = some (.int .i64 n) ∧ W.cell? ⟨g, 2, none⟩ = some (.int .i64 o) ∧ g < W.heap.size ∧ Below w.heap.size w W ∧ w.heap.size + 2 ≤ W.heap.size) : w.heap.size + 2 ≤ W.heap.size := by
  obtain ⟨c0, c1, c2, c3, c4, c5, c6, c7, c8, g0, hB, hz⟩ := h
  exact hz

theorem lg_set {g : Nat} {a b c x y z m n o : Int} {w W : World} {t j : Nat} {u : Value} (h : W.cell? ⟨w.heap.size, 0, none⟩ = some (.int .i64 a) ∧ W.cell? ⟨w.heap.size, 1, none⟩ = some (.int .i64 b) ∧ W.cell? ⟨w.heap.size, 2, none⟩ = some (.int .i64 c) ∧ W.cell? ⟨w.heap.size + 1, 0, none⟩ = some (.int .i64 x) ∧ W.cell? ⟨w.heap.size + 1, 1, none⟩ = some (.int .i64 y) ∧ W.cell? ⟨w.heap.size + 1, 2, none⟩ = some (.int .i64 z) ∧ W.cell? ⟨g, 0, none⟩ = some (.int .i64 m) ∧ W.cell? ⟨g, 1, none⟩ = some (.int .i64 n) ∧ W.cell? ⟨g, 2, none⟩ = some (.int .i64 o) ∧ g < W.heap.size ∧ Below w.heap.size w W ∧ w.heap.size + 2 ≤ W.heap.size) (ht : w.heap.size + 2 ≤ t) (hn_g : g < t) : (W.setCell ⟨t, j, none⟩ u).cell? ⟨w.heap.size, 0, none⟩ = some (.int .i64 a) ∧ (W.setCell ⟨t, j, none⟩ u).cell? ⟨w.heap.size, 1, none⟩ = some (.int .i64 b) ∧ (W.setCell ⟨t, j, none⟩ u).cell? ⟨w.heap.size, 2, none⟩ = some (.int .i64 c) ∧ (W.setCell ⟨t, j, none⟩ u).cell? ⟨w.heap.size + 1, 0, none⟩ = some (.int .i64 x) ∧ (W.setCell ⟨t, j, none⟩ u).cell? ⟨w.heap.size + 1, 1, none⟩ = some (.int .i64 y) ∧ (W.setCell ⟨t, j, none⟩ u).cell? ⟨w.heap.size + 1, 2, none⟩ = some (.int .i64 z) ∧ (W.setCell ⟨t, j, none⟩ u).cell? ⟨g, 0, none⟩ = some (.int .i64 m) ∧ (W.setCell ⟨t, j, none⟩ u).cell? ⟨g, 1, none⟩ = some (.int .i64 n) ∧ (W.setCell ⟨t, j, none⟩ u).cell? ⟨g, 2, none⟩ = some (.int .i64 o) ∧ g < (W.setCell ⟨t, j, none⟩ u).heap.size ∧ Below w.heap.size w (W.setCell ⟨t, j, none⟩ u) ∧ w.heap.size + 2 ≤ (W.setCell ⟨t, j, none⟩ u).heap.size := by
  obtain ⟨c0, c1, c2, c3, c4, c5, c6, c7, c8, g0, hB, hz⟩ := h
  exact ⟨cell_set c0 (by omega), cell_set c1 (by omega), cell_set c2 (by omega), cell_set c3 (by omega), cell_set c4 (by omega), cell_set c5 (by omega), cell_set c6 (by omega), cell_set c7 (by omega), cell_set c8 (by omega), by simpa [World.setCell] using g0, hB.setCell (by simp; omega) _, by simpa [World.setCell] using hz⟩

theorem lg_of {g : Nat} {a b c x y z m n o : Int} {w W : World} (h : W.cell? ⟨w.heap.size, 0, none⟩ = some (.int .i64 a) ∧ W.cell? ⟨w.heap.size, 1, none⟩ = some (.int .i64 b) ∧ W.cell? ⟨w.heap.size, 2, none⟩ = some (.int .i64 c) ∧ W.cell? ⟨w.heap.size + 1, 0, none⟩ = some (.int .i64 x) ∧ W.cell? ⟨w.heap.size + 1, 1, none⟩ = some (.int .i64 y) ∧ W.cell? ⟨w.heap.size + 1, 2, none⟩ = some (.int .i64 z) ∧ Below w.heap.size w W ∧ w.heap.size + 2 ≤ W.heap.size) (g0 : W.cell? ⟨g, 0, none⟩ = some (.int .i64 m)) (g1 : W.cell? ⟨g, 1, none⟩ = some (.int .i64 n)) (g2 : W.cell? ⟨g, 2, none⟩ = some (.int .i64 o)) (hg : g < W.heap.size) : W.cell? ⟨w.heap.size, 0, none⟩ = some (.int .i64 a) ∧ W.cell? ⟨w.heap.size, 1, none⟩ = some (.int .i64 b) ∧ W.cell? ⟨w.heap.size, 2, none⟩ = some (.int .i64 c) ∧ W.cell? ⟨w.heap.size + 1, 0, none⟩ = some (.int .i64 x) ∧ W.cell? ⟨w.heap.size + 1, 1, none⟩ = some (.int .i64 y) ∧ W.cell? ⟨w.heap.size + 1, 2, none⟩ = some (.int .i64 z) ∧ W.cell? ⟨g, 0, none⟩ = some (.int .i64 m) ∧ W.cell? ⟨g, 1, none⟩ = some (.int .i64 n) ∧ W.cell? ⟨g, 2, none⟩ = some (.int .i64 o) ∧ g < W.heap.size ∧ Below w.heap.size w W ∧ w.heap.size + 2 ≤ W.heap.size := by
  obtain ⟨c0, c1, c2, c3, c4, c5, hB, hz⟩ := h
  exact ⟨c0, c1, c2, c3, c4, c5, g0, g1, g2, hg, hB, hz⟩

theorem lg_last {g t : Nat} {a b c x y z m n o : Int} {w W : World} (h : W.cell? ⟨w.heap.size, 0, none⟩ = some (.int .i64 a) ∧ W.cell? ⟨w.heap.size, 1, none⟩ = some (.int .i64 b) ∧ W.cell? ⟨w.heap.size, 2, none⟩ = some (.int .i64 c) ∧ W.cell? ⟨w.heap.size + 1, 0, none⟩ = some (.int .i64 x) ∧ W.cell? ⟨w.heap.size + 1, 1, none⟩ = some (.int .i64 y) ∧ W.cell? ⟨w.heap.size + 1, 2, none⟩ = some (.int .i64 z) ∧ W.cell? ⟨g, 0, none⟩ = some (.int .i64 m) ∧ W.cell? ⟨g, 1, none⟩ = some (.int .i64 n) ∧ W.cell? ⟨g, 2, none⟩ = some (.int .i64 o) ∧ g < W.heap.size ∧ Below w.heap.size w W ∧ w.heap.size + 2 ≤ W.heap.size) (g0 : W.cell? ⟨t, 0, none⟩ = some (.int .i64 m)) (g1 : W.cell? ⟨t, 1, none⟩ = some (.int .i64 n)) (g2 : W.cell? ⟨t, 2, none⟩ = some (.int .i64 o)) : W.cell? ⟨g, 0, none⟩ = some (.int .i64 m) ∧ W.cell? ⟨g, 1, none⟩ = some (.int .i64 n) ∧ W.cell? ⟨g, 2, none⟩ = some (.int .i64 o) ∧ W.cell? ⟨t, 0, none⟩ = some (.int .i64 m) ∧ W.cell? ⟨t, 1, none⟩ = some (.int .i64 n) ∧ W.cell? ⟨t, 2, none⟩ = some (.int .i64 o) ∧ Below w.heap.size w W := by
  obtain ⟨c0, c1, c2, c3, c4, c5, c6, c7, c8, hg, hB, hz⟩ := h
  exact ⟨c6, c7, c8, g0, g1, g2, hB⟩

def okD (t : Bool) : Int := if t = true then 0 else 1

def hasV (t : Bool) (x q : Int) : Bool := t && decide (q ≤ x)

def addV (t : Bool) (i p x q : Int) : Int := if t = true then (if p = i ∧ x < q then q else x) else 0

theorem impl_has (a b c p q : Int) (w : World) :
    Calls Try.prog 11 #[.agg #[.int .i64 a, .int .i64 b, .int .i64 c], .agg #[.int .i64 p, .int .i64 q]] w fun e w' => e = .returned (.tuple #[.bool (hasV (vvB a b c && dotB p q) (comp a b c p) q), .int .i64 (okD (vvB a b c && dotB p q))]) ∧ Below w.heap.size w w' := by
  cases h1 : vvB a b c
  · exact (impl_has_bad1 a b c p q w h1).mono fun e w' ⟨he, hb⟩ => ⟨he.trans (ret_bint (by simp [hasV]) (by simp [okD])), hb⟩
  · cases h2 : dotB p q
    · exact (impl_has_bad2 a b c p q w h1 h2).mono fun e w' ⟨he, hb⟩ => ⟨he.trans (ret_bint (by simp [hasV]) (by simp [okD])), hb⟩
    · rcases dot_node h2 with hp | hp | hp <;> subst hp
      · by_cases hq : q ≤ a
        · exact (impl_has_0true a b c q w h1 h2 hq).mono fun e w' ⟨he, hb⟩ => ⟨he.trans (ret_bint (by simp [hasV, comp, hq]) (by simp [okD])), hb⟩
        · exact (impl_has_0false a b c q w h1 h2 (by omega)).mono fun e w' ⟨he, hb⟩ => ⟨he.trans (ret_bint (by simp [hasV, comp, hq]) (by simp [okD])), hb⟩
      · by_cases hq : q ≤ b
        · exact (impl_has_1true a b c q w h1 h2 hq).mono fun e w' ⟨he, hb⟩ => ⟨he.trans (ret_bint (by simp [hasV, comp, hq]) (by simp [okD])), hb⟩
        · exact (impl_has_1false a b c q w h1 h2 (by omega)).mono fun e w' ⟨he, hb⟩ => ⟨he.trans (ret_bint (by simp [hasV, comp, hq]) (by simp [okD])), hb⟩
      · by_cases hq : q ≤ c
        · exact (impl_has_2true a b c q w h1 h2 hq).mono fun e w' ⟨he, hb⟩ => ⟨he.trans (ret_bint (by simp [hasV, comp, hq]) (by simp [okD])), hb⟩
        · exact (impl_has_2false a b c q w h1 h2 (by omega)).mono fun e w' ⟨he, hb⟩ => ⟨he.trans (ret_bint (by simp [hasV, comp, hq]) (by simp [okD])), hb⟩

theorem impl_add (a b c p q : Int) (w : World) :
    Calls Try.prog 10 #[.agg #[.int .i64 a, .int .i64 b, .int .i64 c], .agg #[.int .i64 p, .int .i64 q]] w fun e w' => e = .returned (.tuple #[.agg #[.int .i64 (addV (vvB a b c && dotB p q) 0 p a q), .int .i64 (addV (vvB a b c && dotB p q) 1 p b q), .int .i64 (addV (vvB a b c && dotB p q) 2 p c q)], .int .i64 (okD (vvB a b c && dotB p q))]) ∧ Below w.heap.size w w' := by
  cases h1 : vvB a b c
  · exact (impl_add_bad1 a b c p q w h1).mono fun e w' ⟨he, hb⟩ => ⟨he.trans (ret_vint (by simp [addV]) (by simp [addV]) (by simp [addV]) (by simp [okD])), hb⟩
  · cases h2 : dotB p q
    · exact (impl_add_bad2 a b c p q w h1 h2).mono fun e w' ⟨he, hb⟩ => ⟨he.trans (ret_vint (by simp [addV]) (by simp [addV]) (by simp [addV]) (by simp [okD])), hb⟩
    · rcases dot_node h2 with hp | hp | hp <;> subst hp
      · by_cases hq : a < q
        · exact (impl_add_0lt a b c q w h1 h2 hq).mono fun e w' ⟨he, hb⟩ => ⟨he.trans (ret_vint (by simp [addV, hq]) (by simp [addV, hq]) (by simp [addV, hq]) (by simp [okD])), hb⟩
        · exact (impl_add_0ge a b c q w h1 h2 (by omega)).mono fun e w' ⟨he, hb⟩ => ⟨he.trans (ret_vint (by simp [addV, hq]) (by simp [addV, hq]) (by simp [addV, hq]) (by simp [okD])), hb⟩
      · by_cases hq : b < q
        · exact (impl_add_1lt a b c q w h1 h2 hq).mono fun e w' ⟨he, hb⟩ => ⟨he.trans (ret_vint (by simp [addV, hq]) (by simp [addV, hq]) (by simp [addV, hq]) (by simp [okD])), hb⟩
        · exact (impl_add_1ge a b c q w h1 h2 (by omega)).mono fun e w' ⟨he, hb⟩ => ⟨he.trans (ret_vint (by simp [addV, hq]) (by simp [addV, hq]) (by simp [addV, hq]) (by simp [okD])), hb⟩
      · by_cases hq : c < q
        · exact (impl_add_2lt a b c q w h1 h2 hq).mono fun e w' ⟨he, hb⟩ => ⟨he.trans (ret_vint (by simp [addV, hq]) (by simp [addV, hq]) (by simp [addV, hq]) (by simp [okD])), hb⟩
        · exact (impl_add_2ge a b c q w h1 h2 (by omega)).mono fun e w' ⟨he, hb⟩ => ⟨he.trans (ret_vint (by simp [addV, hq]) (by simp [addV, hq]) (by simp [addV, hq]) (by simp [okD])), hb⟩

theorem lh_keep {a b c p q : Int} {w W W' : World} (hb : Below W.heap.size W W') (h : W.cell? ⟨w.heap.size, 0, none⟩ = some (.int .i64 a) ∧ W.cell? ⟨w.heap.size, 1, none⟩ = some (.int .i64 b) ∧ W.cell? ⟨w.heap.size, 2, none⟩ = some (.int .i64 c) ∧ W.cell? ⟨w.heap.size + 1, 0, none⟩ = some (.int .i64 p) ∧ W.cell? ⟨w.heap.size + 1, 1, none⟩ = some (.int .i64 q) ∧ Below w.heap.size w W ∧ w.heap.size + 2 ≤ W.heap.size) : W'.cell? ⟨w.heap.size, 0, none⟩ = some (.int .i64 a) ∧ W'.cell? ⟨w.heap.size, 1, none⟩ = some (.int .i64 b) ∧ W'.cell? ⟨w.heap.size, 2, none⟩ = some (.int .i64 c) ∧ W'.cell? ⟨w.heap.size + 1, 0, none⟩ = some (.int .i64 p) ∧ W'.cell? ⟨w.heap.size + 1, 1, none⟩ = some (.int .i64 q) ∧ Below w.heap.size w W' ∧ w.heap.size + 2 ≤ W'.heap.size := by
  obtain ⟨c0, c1, c2, c3, c4, hB, hz⟩ := h
  have hq := hb.size
  exact ⟨cell_next hb c0 (by omega), cell_next hb c1 (by omega), cell_next hb c2 (by omega), cell_next hb c3 (by omega), cell_next hb c4 (by omega), hB.trans (hb.mono (by omega)), by omega⟩

theorem lh_alloc {a b c p q : Int} {w W : World} {ob : Obj} (h : W.cell? ⟨w.heap.size, 0, none⟩ = some (.int .i64 a) ∧ W.cell? ⟨w.heap.size, 1, none⟩ = some (.int .i64 b) ∧ W.cell? ⟨w.heap.size, 2, none⟩ = some (.int .i64 c) ∧ W.cell? ⟨w.heap.size + 1, 0, none⟩ = some (.int .i64 p) ∧ W.cell? ⟨w.heap.size + 1, 1, none⟩ = some (.int .i64 q) ∧ Below w.heap.size w W ∧ w.heap.size + 2 ≤ W.heap.size) : (W.alloc ob).cell? ⟨w.heap.size, 0, none⟩ = some (.int .i64 a) ∧ (W.alloc ob).cell? ⟨w.heap.size, 1, none⟩ = some (.int .i64 b) ∧ (W.alloc ob).cell? ⟨w.heap.size, 2, none⟩ = some (.int .i64 c) ∧ (W.alloc ob).cell? ⟨w.heap.size + 1, 0, none⟩ = some (.int .i64 p) ∧ (W.alloc ob).cell? ⟨w.heap.size + 1, 1, none⟩ = some (.int .i64 q) ∧ Below w.heap.size w (W.alloc ob) ∧ w.heap.size + 2 ≤ (W.alloc ob).heap.size := lh_keep ((Below.refl _ _).alloc (Nat.le_refl _) _) h

theorem lh_drew {a b c p q : Int} {w W : World} (h : W.cell? ⟨w.heap.size, 0, none⟩ = some (.int .i64 a) ∧ W.cell? ⟨w.heap.size, 1, none⟩ = some (.int .i64 b) ∧ W.cell? ⟨w.heap.size, 2, none⟩ = some (.int .i64 c) ∧ W.cell? ⟨w.heap.size + 1, 0, none⟩ = some (.int .i64 p) ∧ W.cell? ⟨w.heap.size + 1, 1, none⟩ = some (.int .i64 q) ∧ Below w.heap.size w W ∧ w.heap.size + 2 ≤ W.heap.size) : W.drew.cell? ⟨w.heap.size, 0, none⟩ = some (.int .i64 a) ∧ W.drew.cell? ⟨w.heap.size, 1, none⟩ = some (.int .i64 b) ∧ W.drew.cell? ⟨w.heap.size, 2, none⟩ = some (.int .i64 c) ∧ W.drew.cell? ⟨w.heap.size + 1, 0, none⟩ = some (.int .i64 p) ∧ W.drew.cell? ⟨w.heap.size + 1, 1, none⟩ = some (.int .i64 q) ∧ Below w.heap.size w W.drew ∧ w.heap.size + 2 ≤ W.drew.heap.size := by
  obtain ⟨c0, c1, c2, c3, c4, hB, hz⟩ := h
  exact ⟨c0, c1, c2, c3, c4, hB.drew, hz⟩

theorem lh_below {a b c p q : Int} {w W : World} (h : W.cell? ⟨w.heap.size, 0, none⟩ = some (.int .i64 a) ∧ W.cell? ⟨w.heap.size, 1, none⟩ = some (.int .i64 b) ∧ W.cell? ⟨w.heap.size, 2, none⟩ = some (.int .i64 c) ∧ W.cell? ⟨w.heap.size + 1, 0, none⟩ = some (.int .i64 p) ∧ W.cell? ⟨w.heap.size + 1, 1, none⟩ = some (.int .i64 q) ∧ Below w.heap.size w W ∧ w.heap.size + 2 ≤ W.heap.size) : Below w.heap.size w W := by
  obtain ⟨c0, c1, c2, c3, c4, hB, hz⟩ := h
  exact hB

theorem lh_size {a b c p q : Int} {w W : World} (h : W.cell? ⟨w.heap.size, 0, none⟩ = some (.int .i64 a) ∧ W.cell? ⟨w.heap.size, 1, none⟩ = some (.int .i64 b) ∧ W.cell? ⟨w.heap.size, 2, none⟩ = some (.int .i64 c) ∧ W.cell? ⟨w.heap.size + 1, 0, none⟩ = some (.int .i64 p) ∧ W.cell? ⟨w.heap.size + 1, 1, none⟩ = some (.int .i64 q) ∧ Below w.heap.size w W ∧ w.heap.size + 2 ≤ W.heap.size) : w.heap.size + 2 ≤ W.heap.size := by
  obtain ⟨c0, c1, c2, c3, c4, hB, hz⟩ := h
  exact hz

theorem lh_set {a b c p q : Int} {w W : World} {t j : Nat} {u : Value} (h : W.cell? ⟨w.heap.size, 0, none⟩ = some (.int .i64 a) ∧ W.cell? ⟨w.heap.size, 1, none⟩ = some (.int .i64 b) ∧ W.cell? ⟨w.heap.size, 2, none⟩ = some (.int .i64 c) ∧ W.cell? ⟨w.heap.size + 1, 0, none⟩ = some (.int .i64 p) ∧ W.cell? ⟨w.heap.size + 1, 1, none⟩ = some (.int .i64 q) ∧ Below w.heap.size w W ∧ w.heap.size + 2 ≤ W.heap.size) (ht : w.heap.size + 2 ≤ t) : (W.setCell ⟨t, j, none⟩ u).cell? ⟨w.heap.size, 0, none⟩ = some (.int .i64 a) ∧ (W.setCell ⟨t, j, none⟩ u).cell? ⟨w.heap.size, 1, none⟩ = some (.int .i64 b) ∧ (W.setCell ⟨t, j, none⟩ u).cell? ⟨w.heap.size, 2, none⟩ = some (.int .i64 c) ∧ (W.setCell ⟨t, j, none⟩ u).cell? ⟨w.heap.size + 1, 0, none⟩ = some (.int .i64 p) ∧ (W.setCell ⟨t, j, none⟩ u).cell? ⟨w.heap.size + 1, 1, none⟩ = some (.int .i64 q) ∧ Below w.heap.size w (W.setCell ⟨t, j, none⟩ u) ∧ w.heap.size + 2 ≤ (W.setCell ⟨t, j, none⟩ u).heap.size := by
  obtain ⟨c0, c1, c2, c3, c4, hB, hz⟩ := h
  exact ⟨cell_set c0 (by omega), cell_set c1 (by omega), cell_set c2 (by omega), cell_set c3 (by omega), cell_set c4 (by omega), hB.setCell (by simp; omega) _, by simpa [World.setCell] using hz⟩

theorem lj_keep {g : Nat} {a b c p q m n o : Int} {w W W' : World} (hb : Below W.heap.size W W') (h : W.cell? ⟨w.heap.size, 0, none⟩ = some (.int .i64 a) ∧ W.cell? ⟨w.heap.size, 1, none⟩ = some (.int .i64 b) ∧ W.cell? ⟨w.heap.size, 2, none⟩ = some (.int .i64 c) ∧ W.cell? ⟨w.heap.size + 1, 0, none⟩ = some (.int .i64 p) ∧ W.cell? ⟨w.heap.size + 1, 1, none⟩ = some (.int .i64 q) ∧ W.cell? ⟨g, 0, none⟩ = some (.int .i64 m) ∧ W.cell? ⟨g, 1, none⟩ = some (.int .i64 n) ∧ W.cell? ⟨g, 2, none⟩ = some (.int .i64 o) ∧ g < W.heap.size ∧ Below w.heap.size w W ∧ w.heap.size + 2 ≤ W.heap.size) : W'.cell? ⟨w.heap.size, 0, none⟩ = some (.int .i64 a) ∧ W'.cell? ⟨w.heap.size, 1, none⟩ = some (.int .i64 b) ∧ W'.cell? ⟨w.heap.size, 2, none⟩ = some (.int .i64 c) ∧ W'.cell? ⟨w.heap.size + 1, 0, none⟩ = some (.int .i64 p) ∧ W'.cell? ⟨w.heap.size + 1, 1, none⟩ = some (.int .i64 q) ∧ W'.cell? ⟨g, 0, none⟩ = some (.int .i64 m) ∧ W'.cell? ⟨g, 1, none⟩ = some (.int .i64 n) ∧ W'.cell? ⟨g, 2, none⟩ = some (.int .i64 o) ∧ g < W'.heap.size ∧ Below w.heap.size w W' ∧ w.heap.size + 2 ≤ W'.heap.size := by
  obtain ⟨c0, c1, c2, c3, c4, c5, c6, c7, g0, hB, hz⟩ := h
  have hq := hb.size
  exact ⟨cell_next hb c0 (by omega), cell_next hb c1 (by omega), cell_next hb c2 (by omega), cell_next hb c3 (by omega), cell_next hb c4 (by omega), cell_next hb c5 (by omega), cell_next hb c6 (by omega), cell_next hb c7 (by omega), by omega, hB.trans (hb.mono (by omega)), by omega⟩

theorem lj_alloc {g : Nat} {a b c p q m n o : Int} {w W : World} {ob : Obj} (h : W.cell? ⟨w.heap.size, 0, none⟩ = some (.int .i64 a) ∧ W.cell? ⟨w.heap.size, 1, none⟩ = some (.int .i64 b) ∧ W.cell? ⟨w.heap.size, 2, none⟩ = some (.int .i64 c) ∧ W.cell? ⟨w.heap.size + 1, 0, none⟩ = some (.int .i64 p) ∧ W.cell? ⟨w.heap.size + 1, 1, none⟩ = some (.int .i64 q) ∧ W.cell? ⟨g, 0, none⟩ = some (.int .i64 m) ∧ W.cell? ⟨g, 1, none⟩ = some (.int .i64 n) ∧ W.cell? ⟨g, 2, none⟩ = some (.int .i64 o) ∧ g < W.heap.size ∧ Below w.heap.size w W ∧ w.heap.size + 2 ≤ W.heap.size) : (W.alloc ob).cell? ⟨w.heap.size, 0, none⟩ = some (.int .i64 a) ∧ (W.alloc ob).cell? ⟨w.heap.size, 1, none⟩ = some (.int .i64 b) ∧ (W.alloc ob).cell? ⟨w.heap.size, 2, none⟩ = some (.int .i64 c) ∧ (W.alloc ob).cell? ⟨w.heap.size + 1, 0, none⟩ = some (.int .i64 p) ∧ (W.alloc ob).cell? ⟨w.heap.size + 1, 1, none⟩ = some (.int .i64 q) ∧ (W.alloc ob).cell? ⟨g, 0, none⟩ = some (.int .i64 m) ∧ (W.alloc ob).cell? ⟨g, 1, none⟩ = some (.int .i64 n) ∧ (W.alloc ob).cell? ⟨g, 2, none⟩ = some (.int .i64 o) ∧ g < (W.alloc ob).heap.size ∧ Below w.heap.size w (W.alloc ob) ∧ w.heap.size + 2 ≤ (W.alloc ob).heap.size := lj_keep ((Below.refl _ _).alloc (Nat.le_refl _) _) h

theorem lj_drew {g : Nat} {a b c p q m n o : Int} {w W : World} (h : W.cell? ⟨w.heap.size, 0, none⟩ = some (.int .i64 a) ∧ W.cell? ⟨w.heap.size, 1, none⟩ = some (.int .i64 b) ∧ W.cell? ⟨w.heap.size, 2, none⟩ = some (.int .i64 c) ∧ W.cell? ⟨w.heap.size + 1, 0, none⟩ = some (.int .i64 p) ∧ W.cell? ⟨w.heap.size + 1, 1, none⟩ = some (.int .i64 q) ∧ W.cell? ⟨g, 0, none⟩ = some (.int .i64 m) ∧ W.cell? ⟨g, 1, none⟩ = some (.int .i64 n) ∧ W.cell? ⟨g, 2, none⟩ = some (.int .i64 o) ∧ g < W.heap.size ∧ Below w.heap.size w W ∧ w.heap.size + 2 ≤ W.heap.size) : W.drew.cell? ⟨w.heap.size, 0, none⟩ = some (.int .i64 a) ∧ W.drew.cell? ⟨w.heap.size, 1, none⟩ = some (.int .i64 b) ∧ W.drew.cell? ⟨w.heap.size, 2, none⟩ = some (.int .i64 c) ∧ W.drew.cell? ⟨w.heap.size + 1, 0, none⟩ = some (.int .i64 p) ∧ W.drew.cell? ⟨w.heap.size + 1, 1, none⟩ = some (.int .i64 q) ∧ W.drew.cell? ⟨g, 0, none⟩ = some (.int .i64 m) ∧ W.drew.cell? ⟨g, 1, none⟩ = some (.int .i64 n) ∧ W.drew.cell? ⟨g, 2, none⟩ = some (.int .i64 o) ∧ g < W.drew.heap.size ∧ Below w.heap.size w W.drew ∧ w.heap.size + 2 ≤ W.drew.heap.size := by
  obtain ⟨c0, c1, c2, c3, c4, c5, c6, c7, g0, hB, hz⟩ := h
  exact ⟨c0, c1, c2, c3, c4, c5, c6, c7, g0, hB.drew, hz⟩

theorem lj_below {g : Nat} {a b c p q m n o : Int} {w W : World} (h : W.cell? ⟨w.heap.size, 0, none⟩ = some (.int .i64 a) ∧ W.cell? ⟨w.heap.size, 1, none⟩ = some (.int .i64 b) ∧ W.cell? ⟨w.heap.size, 2, none⟩ = some (.int .i64 c) ∧ W.cell? ⟨w.heap.size + 1, 0, none⟩ = some (.int .i64 p) ∧ W.cell? ⟨w.heap.size + 1, 1, none⟩ = some (.int .i64 q) ∧ W.cell? ⟨g, 0, none⟩ = some (.int .i64 m) ∧ W.cell? ⟨g, 1, none⟩ = some (.int .i64 n) ∧ W.cell? ⟨g, 2, none⟩ = some (.int .i64 o) ∧ g < W.heap.size ∧ Below w.heap.size w W ∧ w.heap.size + 2 ≤ W.heap.size) : Below w.heap.size w W := by
  obtain ⟨c0, c1, c2, c3, c4, c5, c6, c7, g0, hB, hz⟩ := h
  exact hB

theorem lj_size {g : Nat} {a b c p q m n o : Int} {w W : World} (h : W.cell? ⟨w.heap.size, 0, none⟩ = some (.int .i64 a) ∧ W.cell? ⟨w.heap.size, 1, none⟩ = some (.int .i64 b) ∧ W.cell? ⟨w.heap.size, 2, none⟩ = some (.int .i64 c) ∧ W.cell? ⟨w.heap.size + 1, 0, none⟩ = some (.int .i64 p) ∧ W.cell? ⟨w.heap.size + 1, 1, none⟩ = some (.int .i64 q) ∧ W.cell? ⟨g, 0, none⟩ = some (.int .i64 m) ∧ W.cell? ⟨g, 1, none⟩ = some (.int .i64 n) ∧ W.cell? ⟨g, 2, none⟩ = some (.int .i64 o) ∧ g < W.heap.size ∧ Below w.heap.size w W ∧ w.heap.size + 2 ≤ W.heap.size) : w.heap.size + 2 ≤ W.heap.size := by
  obtain ⟨c0, c1, c2, c3, c4, c5, c6, c7, g0, hB, hz⟩ := h
  exact hz

theorem lj_set {g : Nat} {a b c p q m n o : Int} {w W : World} {t j : Nat} {u : Value} (h : W.cell? ⟨w.heap.size, 0, none⟩ = some (.int .i64 a) ∧ W.cell? ⟨w.heap.size, 1, none⟩ = some (.int .i64 b) ∧ W.cell? ⟨w.heap.size, 2, none⟩ = some (.int .i64 c) ∧ W.cell? ⟨w.heap.size + 1, 0, none⟩ = some (.int .i64 p) ∧ W.cell? ⟨w.heap.size + 1, 1, none⟩ = some (.int .i64 q) ∧ W.cell? ⟨g, 0, none⟩ = some (.int .i64 m) ∧ W.cell? ⟨g, 1, none⟩ = some (.int .i64 n) ∧ W.cell? ⟨g, 2, none⟩ = some (.int .i64 o) ∧ g < W.heap.size ∧ Below w.heap.size w W ∧ w.heap.size + 2 ≤ W.heap.size) (ht : w.heap.size + 2 ≤ t) (hn_g : g < t) : (W.setCell ⟨t, j, none⟩ u).cell? ⟨w.heap.size, 0, none⟩ = some (.int .i64 a) ∧ (W.setCell ⟨t, j, none⟩ u).cell? ⟨w.heap.size, 1, none⟩ = some (.int .i64 b) ∧ (W.setCell ⟨t, j, none⟩ u).cell? ⟨w.heap.size, 2, none⟩ = some (.int .i64 c) ∧ (W.setCell ⟨t, j, none⟩ u).cell? ⟨w.heap.size + 1, 0, none⟩ = some (.int .i64 p) ∧ (W.setCell ⟨t, j, none⟩ u).cell? ⟨w.heap.size + 1, 1, none⟩ = some (.int .i64 q) ∧ (W.setCell ⟨t, j, none⟩ u).cell? ⟨g, 0, none⟩ = some (.int .i64 m) ∧ (W.setCell ⟨t, j, none⟩ u).cell? ⟨g, 1, none⟩ = some (.int .i64 n) ∧ (W.setCell ⟨t, j, none⟩ u).cell? ⟨g, 2, none⟩ = some (.int .i64 o) ∧ g < (W.setCell ⟨t, j, none⟩ u).heap.size ∧ Below w.heap.size w (W.setCell ⟨t, j, none⟩ u) ∧ w.heap.size + 2 ≤ (W.setCell ⟨t, j, none⟩ u).heap.size := by
  obtain ⟨c0, c1, c2, c3, c4, c5, c6, c7, g0, hB, hz⟩ := h
  exact ⟨cell_set c0 (by omega), cell_set c1 (by omega), cell_set c2 (by omega), cell_set c3 (by omega), cell_set c4 (by omega), cell_set c5 (by omega), cell_set c6 (by omega), cell_set c7 (by omega), by simpa [World.setCell] using g0, hB.setCell (by simp; omega) _, by simpa [World.setCell] using hz⟩

theorem lj_of {g : Nat} {a b c p q m n o : Int} {w W : World} (h : W.cell? ⟨w.heap.size, 0, none⟩ = some (.int .i64 a) ∧ W.cell? ⟨w.heap.size, 1, none⟩ = some (.int .i64 b) ∧ W.cell? ⟨w.heap.size, 2, none⟩ = some (.int .i64 c) ∧ W.cell? ⟨w.heap.size + 1, 0, none⟩ = some (.int .i64 p) ∧ W.cell? ⟨w.heap.size + 1, 1, none⟩ = some (.int .i64 q) ∧ Below w.heap.size w W ∧ w.heap.size + 2 ≤ W.heap.size) (g0 : W.cell? ⟨g, 0, none⟩ = some (.int .i64 m)) (g1 : W.cell? ⟨g, 1, none⟩ = some (.int .i64 n)) (g2 : W.cell? ⟨g, 2, none⟩ = some (.int .i64 o)) (hg : g < W.heap.size) : W.cell? ⟨w.heap.size, 0, none⟩ = some (.int .i64 a) ∧ W.cell? ⟨w.heap.size, 1, none⟩ = some (.int .i64 b) ∧ W.cell? ⟨w.heap.size, 2, none⟩ = some (.int .i64 c) ∧ W.cell? ⟨w.heap.size + 1, 0, none⟩ = some (.int .i64 p) ∧ W.cell? ⟨w.heap.size + 1, 1, none⟩ = some (.int .i64 q) ∧ W.cell? ⟨g, 0, none⟩ = some (.int .i64 m) ∧ W.cell? ⟨g, 1, none⟩ = some (.int .i64 n) ∧ W.cell? ⟨g, 2, none⟩ = some (.int .i64 o) ∧ g < W.heap.size ∧ Below w.heap.size w W ∧ w.heap.size + 2 ≤ W.heap.size := by
  obtain ⟨c0, c1, c2, c3, c4, hB, hz⟩ := h
  exact ⟨c0, c1, c2, c3, c4, g0, g1, g2, hg, hB, hz⟩

theorem lj_last {g t : Nat} {a b c p q m n o : Int} {w W : World} (h : W.cell? ⟨w.heap.size, 0, none⟩ = some (.int .i64 a) ∧ W.cell? ⟨w.heap.size, 1, none⟩ = some (.int .i64 b) ∧ W.cell? ⟨w.heap.size, 2, none⟩ = some (.int .i64 c) ∧ W.cell? ⟨w.heap.size + 1, 0, none⟩ = some (.int .i64 p) ∧ W.cell? ⟨w.heap.size + 1, 1, none⟩ = some (.int .i64 q) ∧ W.cell? ⟨g, 0, none⟩ = some (.int .i64 m) ∧ W.cell? ⟨g, 1, none⟩ = some (.int .i64 n) ∧ W.cell? ⟨g, 2, none⟩ = some (.int .i64 o) ∧ g < W.heap.size ∧ Below w.heap.size w W ∧ w.heap.size + 2 ≤ W.heap.size) (g0 : W.cell? ⟨t, 0, none⟩ = some (.int .i64 m)) (g1 : W.cell? ⟨t, 1, none⟩ = some (.int .i64 n)) (g2 : W.cell? ⟨t, 2, none⟩ = some (.int .i64 o)) : W.cell? ⟨g, 0, none⟩ = some (.int .i64 m) ∧ W.cell? ⟨g, 1, none⟩ = some (.int .i64 n) ∧ W.cell? ⟨g, 2, none⟩ = some (.int .i64 o) ∧ W.cell? ⟨t, 0, none⟩ = some (.int .i64 m) ∧ W.cell? ⟨t, 1, none⟩ = some (.int .i64 n) ∧ W.cell? ⟨t, 2, none⟩ = some (.int .i64 o) ∧ Below w.heap.size w W := by
  obtain ⟨c0, c1, c2, c3, c4, c6, c7, c8, hg, hB, hz⟩ := h
  exact ⟨c6, c7, c8, g0, g1, g2, hB⟩
end Go.Proofs.Ytlnpdcnjkjakiaa

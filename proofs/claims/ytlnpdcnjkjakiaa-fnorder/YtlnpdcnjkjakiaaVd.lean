/- OrderDots, of the program and of the specification. -/
import Derived.Test.YtlnpdcnjkjakiaaRows
import Derived.WalkKit
import Derived.WalkSpells
import Derived.WalkLawsBesides
import Derived.Deep.QuietTactic
import Derived.BigQuiet
import Derived.Deep.RegionHeld3
import Derived.LoopN
import Derived.RegionTactic
import Derived.BigRegion
import Derived.Laws.StructEq
import Derived.Test.YtlnpdcnjkjakiaaSrc
import Derived.Test.YtlnpdcnjkjakiaaVa
namespace Go.Proofs.Ytlnpdcnjkjakiaa
open Go.RowKit
set_option linter.unusedSimpArgs false
set_option linter.unusedVariables false

def cmpI (x y : Int) : Int := if x < y then -1 else if y < x then 1 else 0

def dotsC (x y u v : Int) : Int := if dotB x y = true ∧ dotB u v = true then 0 else 1

def dotsV (x y u v : Int) : Int := if dotB x y = true ∧ dotB u v = true then (if x < u then -1 else if u < x then 1 else cmpI y v) else 0

set_option maxHeartbeats 400000 in
theorem cmp_any (x y : Int) (w : World) :
    Calls Try.prog 33 #[.int .i64 x, .int .i64 y] w fun e w' => e = .returned (.int .i64 (cmpI x y)) ∧ w' = w := by
  have cs : x < y ∨ y < x ∨ x = y := by omega
  rcases cs with h | h | h
  case inr.inr =>
    subst h
    have HB : Hid (cmpI x x = 0) := by unfold Hid cmpI; simp
    go_enter Try.func33, Try.ntmps33
    go_wp2
    go_ret
    exact ⟨ret_int HB.out.symm, rfl⟩
  case inl =>
    have HB : Hid (cmpI x y = -1) := by unfold Hid cmpI; simp [h]
    go_enter Try.func33, Try.ntmps33
    go_wp2
    go_ret
    exact ⟨ret_int HB.out.symm, rfl⟩
  case inr.inl =>
    have HB : Hid (cmpI x y = 1) := by unfold Hid cmpI; rw [if_neg (by omega), if_pos h]
    go_enter Try.func33, Try.ntmps33
    go_wp2
    go_ret
    exact ⟨ret_int HB.out.symm, rfl⟩


set_option maxHeartbeats 400000 in
theorem spec_dotx (x y : Int) (w : World) :
    Calls Try.prog 27 #[.agg #[.int .i64 x, .int .i64 y]] w fun e w' => e = .returned (.bool (dotB x y)) ∧ w' = w.alloc (.cells #[.int .i64 x, .int .i64 y] 27) := by
  by_cases h1 : 0 ≤ x <;> by_cases h2 : x < 3 <;> by_cases h3 : 1 ≤ y <;> by_cases h4 : y ≤ 9999
  all_goals first
    | (exfalso; omega)
    | skip
  all_goals
    have HB : Hid (dotB x y = (decide (0 ≤ x ∧ x < 3 ∧ 1 ≤ y ∧ y ≤ 9999))) := rfl
    go_enter Try.func27, Try.ntmps27
    go_wp2
    go_ret
    exact ⟨ret_bool (by rw [HB.out]; simp [h1, h2, h3, h4]), rfl⟩


theorem bel_alloc (W : World) (o : Obj) : Below W.heap.size W (W.alloc o) := (Below.refl _ _).alloc (Nat.le_refl _) _
theorem bel_next {w W W' : World} (h : Hid (Below w.heap.size w W)) (hb : Below W.heap.size W W') : Hid (Below w.heap.size w W') := h.out.trans (hb.mono h.out.size)
def dotsI (x y p q : Int) : Int := if x < p then -1 else if p < x then 1 else if y < q then -1 else if q < y then 1 else 0
set_option maxHeartbeats 1000000 in
theorem or2_any (g : Nat) (x y r : Int) (hr : Hid (r = if x = 0 then y else x)) (w : World) (c0 : w.cell? ⟨g, 0, none⟩ = some (.int .i64 x)) (c1 : w.cell? ⟨g, 1, none⟩ = some (.int .i64 y)) :
    Calls Try.prog 32 #[.slice (some ⟨g, 0, none⟩) 2 2] w fun e w' => e = .returned (.int .i64 r) ∧ w' = w := by
  by_cases hx : x = 0
  · subst hx
    have HR : Hid (r = y) := hr.out.trans (if_pos rfl)
    by_cases hy : y = 0
    · subst hy
      go_enter Try.func32, Try.ntmps32
      go_wp2
      refine wp_loop_rounds 3 ?_
      repeat (rw [rounds_succ]; go_wp2)
      go_ret
      exact ⟨ret_int HR.out.symm, rfl⟩
    · have d0 : (y == 0) = false := beq_eq_false_iff_ne.2 hy
      go_enter Try.func32, Try.ntmps32
      go_wp2
      refine wp_loop_rounds 3 ?_
      repeat (rw [rounds_succ]; go_wp2)
      go_ret
      exact ⟨ret_int HR.out.symm, rfl⟩
  · have d0 : (x == 0) = false := beq_eq_false_iff_ne.2 hx
    have HR : Hid (r = x) := hr.out.trans (if_neg hx)
    go_enter Try.func32, Try.ntmps32
    go_wp2
    refine wp_loop_rounds 3 ?_
    repeat (rw [rounds_succ]; go_wp2)
    go_ret
    exact ⟨ret_int HR.out.symm, rfl⟩
theorem dots_or (x y u v : Int) : (if cmpI x u = 0 then cmpI y v else cmpI x u) = dotsI x y u v := by
  unfold cmpI dotsI
  by_cases h1 : x < u
  · simp [h1]
  · by_cases h2 : u < x
    · simp [h1, h2]
    · simp [h1, h2]

theorem cd_keep {x y p q : Int} {w W W' : World} (hb : Below W.heap.size W W') (h : W.cell? ⟨w.heap.size, 0, none⟩ = some (.int .i64 x) ∧ W.cell? ⟨w.heap.size, 1, none⟩ = some (.int .i64 y) ∧ W.cell? ⟨w.heap.size + 1, 0, none⟩ = some (.int .i64 p) ∧ W.cell? ⟨w.heap.size + 1, 1, none⟩ = some (.int .i64 q) ∧ Below w.heap.size w W ∧ w.heap.size + 2 ≤ W.heap.size) : W'.cell? ⟨w.heap.size, 0, none⟩ = some (.int .i64 x) ∧ W'.cell? ⟨w.heap.size, 1, none⟩ = some (.int .i64 y) ∧ W'.cell? ⟨w.heap.size + 1, 0, none⟩ = some (.int .i64 p) ∧ W'.cell? ⟨w.heap.size + 1, 1, none⟩ = some (.int .i64 q) ∧ Below w.heap.size w W' ∧ w.heap.size + 2 ≤ W'.heap.size := by
  obtain ⟨c0, c1, c2, c3, hB, hz⟩ := h
  have hq := hb.size
  exact ⟨cell_next hb c0 (by omega), cell_next hb c1 (by omega), cell_next hb c2 (by omega), cell_next hb c3 (by omega), hB.trans (hb.mono (by omega)), by omega⟩
theorem cd_alloc {x y p q : Int} {w W : World} {ob : Obj} (h : W.cell? ⟨w.heap.size, 0, none⟩ = some (.int .i64 x) ∧ W.cell? ⟨w.heap.size, 1, none⟩ = some (.int .i64 y) ∧ W.cell? ⟨w.heap.size + 1, 0, none⟩ = some (.int .i64 p) ∧ W.cell? ⟨w.heap.size + 1, 1, none⟩ = some (.int .i64 q) ∧ Below w.heap.size w W ∧ w.heap.size + 2 ≤ W.heap.size) : (W.alloc ob).cell? ⟨w.heap.size, 0, none⟩ = some (.int .i64 x) ∧ (W.alloc ob).cell? ⟨w.heap.size, 1, none⟩ = some (.int .i64 y) ∧ (W.alloc ob).cell? ⟨w.heap.size + 1, 0, none⟩ = some (.int .i64 p) ∧ (W.alloc ob).cell? ⟨w.heap.size + 1, 1, none⟩ = some (.int .i64 q) ∧ Below w.heap.size w (W.alloc ob) ∧ w.heap.size + 2 ≤ (W.alloc ob).heap.size := cd_keep ((Below.refl _ _).alloc (Nat.le_refl _) _) h
theorem cd_drew {x y p q : Int} {w W : World} (h : W.cell? ⟨w.heap.size, 0, none⟩ = some (.int .i64 x) ∧ W.cell? ⟨w.heap.size, 1, none⟩ = some (.int .i64 y) ∧ W.cell? ⟨w.heap.size + 1, 0, none⟩ = some (.int .i64 p) ∧ W.cell? ⟨w.heap.size + 1, 1, none⟩ = some (.int .i64 q) ∧ Below w.heap.size w W ∧ w.heap.size + 2 ≤ W.heap.size) : W.drew.cell? ⟨w.heap.size, 0, none⟩ = some (.int .i64 x) ∧ W.drew.cell? ⟨w.heap.size, 1, none⟩ = some (.int .i64 y) ∧ W.drew.cell? ⟨w.heap.size + 1, 0, none⟩ = some (.int .i64 p) ∧ W.drew.cell? ⟨w.heap.size + 1, 1, none⟩ = some (.int .i64 q) ∧ Below w.heap.size w W.drew ∧ w.heap.size + 2 ≤ W.drew.heap.size := by
  obtain ⟨c0, c1, c2, c3, hB, hz⟩ := h
  exact ⟨c0, c1, c2, c3, hB.drew, hz⟩
theorem cd_below {x y p q : Int} {w W : World} (h : W.cell? ⟨w.heap.size, 0, none⟩ = some (.int .i64 x) ∧ W.cell? ⟨w.heap.size, 1, none⟩ = some (.int .i64 y) ∧ W.cell? ⟨w.heap.size + 1, 0, none⟩ = some (.int .i64 p) ∧ W.cell? ⟨w.heap.size + 1, 1, none⟩ = some (.int .i64 q) ∧ Below w.heap.size w W ∧ w.heap.size + 2 ≤ W.heap.size) : Below w.heap.size w W := by
  obtain ⟨c0, c1, c2, c3, hB, hz⟩ := h
  exact hB
theorem cd_size {x y p q : Int} {w W : World} (h : W.cell? ⟨w.heap.size, 0, none⟩ = some (.int .i64 x) ∧ W.cell? ⟨w.heap.size, 1, none⟩ = some (.int .i64 y) ∧ W.cell? ⟨w.heap.size + 1, 0, none⟩ = some (.int .i64 p) ∧ W.cell? ⟨w.heap.size + 1, 1, none⟩ = some (.int .i64 q) ∧ Below w.heap.size w W ∧ w.heap.size + 2 ≤ W.heap.size) : w.heap.size + 2 ≤ W.heap.size := by
  obtain ⟨c0, c1, c2, c3, hB, hz⟩ := h
  exact hz

theorem cd_set {x y p q : Int} {w W : World} {t j : Nat} {u : Value} (h : W.cell? ⟨w.heap.size, 0, none⟩ = some (.int .i64 x) ∧ W.cell? ⟨w.heap.size, 1, none⟩ = some (.int .i64 y) ∧ W.cell? ⟨w.heap.size + 1, 0, none⟩ = some (.int .i64 p) ∧ W.cell? ⟨w.heap.size + 1, 1, none⟩ = some (.int .i64 q) ∧ Below w.heap.size w W ∧ w.heap.size + 2 ≤ W.heap.size) (ht : w.heap.size + 2 ≤ t) : (W.setCell ⟨t, j, none⟩ u).cell? ⟨w.heap.size, 0, none⟩ = some (.int .i64 x) ∧ (W.setCell ⟨t, j, none⟩ u).cell? ⟨w.heap.size, 1, none⟩ = some (.int .i64 y) ∧ (W.setCell ⟨t, j, none⟩ u).cell? ⟨w.heap.size + 1, 0, none⟩ = some (.int .i64 p) ∧ (W.setCell ⟨t, j, none⟩ u).cell? ⟨w.heap.size + 1, 1, none⟩ = some (.int .i64 q) ∧ Below w.heap.size w (W.setCell ⟨t, j, none⟩ u) ∧ w.heap.size + 2 ≤ (W.setCell ⟨t, j, none⟩ u).heap.size := by
  obtain ⟨c0, c1, c2, c3, hB, hz⟩ := h
  exact ⟨cell_set c0 (by omega), cell_set c1 (by omega), cell_set c2 (by omega), cell_set c3 (by omega), hB.setCell (by simp; omega) _, by simpa [World.setCell] using hz⟩

theorem cd_start {x y p q : Int} {w : World} : ((w.alloc (.cells #[.int .i64 x, .int .i64 y] 27)).alloc (.cells #[.int .i64 p, .int .i64 q] 27)).drew.cell? ⟨w.heap.size, 0, none⟩ = some (.int .i64 x) ∧ ((w.alloc (.cells #[.int .i64 x, .int .i64 y] 27)).alloc (.cells #[.int .i64 p, .int .i64 q] 27)).drew.cell? ⟨w.heap.size, 1, none⟩ = some (.int .i64 y) ∧ ((w.alloc (.cells #[.int .i64 x, .int .i64 y] 27)).alloc (.cells #[.int .i64 p, .int .i64 q] 27)).drew.cell? ⟨w.heap.size + 1, 0, none⟩ = some (.int .i64 p) ∧ ((w.alloc (.cells #[.int .i64 x, .int .i64 y] 27)).alloc (.cells #[.int .i64 p, .int .i64 q] 27)).drew.cell? ⟨w.heap.size + 1, 1, none⟩ = some (.int .i64 q) ∧ Below w.heap.size w ((w.alloc (.cells #[.int .i64 x, .int .i64 y] 27)).alloc (.cells #[.int .i64 p, .int .i64 q] 27)).drew ∧ w.heap.size + 2 ≤ ((w.alloc (.cells #[.int .i64 x, .int .i64 y] 27)).alloc (.cells #[.int .i64 p, .int .i64 q] 27)).drew.heap.size := by
  refine ⟨?_, ?_, ?_, ?_, (((Below.refl _ _).alloc (by simp) _).alloc (by simp) _).drew, ?_⟩
  all_goals first | (go_simp; done) | (simp; done) | (simp; omega)
theorem cd_start0 {x y p q : Int} {w : World} : ((w.alloc (.cells #[.int .i64 x, .int .i64 y] 27)).alloc (.cells #[.int .i64 p, .int .i64 q] 27)).cell? ⟨w.heap.size, 0, none⟩ = some (.int .i64 x) ∧ ((w.alloc (.cells #[.int .i64 x, .int .i64 y] 27)).alloc (.cells #[.int .i64 p, .int .i64 q] 27)).cell? ⟨w.heap.size, 1, none⟩ = some (.int .i64 y) ∧ ((w.alloc (.cells #[.int .i64 x, .int .i64 y] 27)).alloc (.cells #[.int .i64 p, .int .i64 q] 27)).cell? ⟨w.heap.size + 1, 0, none⟩ = some (.int .i64 p) ∧ ((w.alloc (.cells #[.int .i64 x, .int .i64 y] 27)).alloc (.cells #[.int .i64 p, .int .i64 q] 27)).cell? ⟨w.heap.size + 1, 1, none⟩ = some (.int .i64 q) ∧ Below w.heap.size w ((w.alloc (.cells #[.int .i64 x, .int .i64 y] 27)).alloc (.cells #[.int .i64 p, .int .i64 q] 27)) ∧ w.heap.size + 2 ≤ ((w.alloc (.cells #[.int .i64 x, .int .i64 y] 27)).alloc (.cells #[.int .i64 p, .int .i64 q] 27)).heap.size := by
  refine ⟨?_, ?_, ?_, ?_, (((Below.refl _ _).alloc (by simp) _).alloc (by simp) _), ?_⟩
  all_goals first | (go_simp; done) | (simp; done) | (simp; omega)

set_option maxHeartbeats 2000000 in
theorem cmpDots_any (x y p q : Int) (w : World) :
    Calls Try.prog 26 #[.agg #[.int .i64 x, .int .i64 y], .agg #[.int .i64 p, .int .i64 q]] w fun e w' => e = .returned (.int .i64 (dotsI x y p q)) ∧ Below w.heap.size w w' := by
  have HD : Hid (dotsI x y p q = if cmpI x p = 0 then cmpI y q else cmpI x p) := (dots_or x y p q).symm
  go_enter Try.func26, Try.ntmps26
  go_wp2_with fail
  go_region_held3 (fun w' => w'.cell? ⟨w.heap.size, 0, none⟩ = some (.int .i64 x) ∧ w'.cell? ⟨w.heap.size, 1, none⟩ = some (.int .i64 y) ∧ w'.cell? ⟨w.heap.size + 1, 0, none⟩ = some (.int .i64 p) ∧ w'.cell? ⟨w.heap.size + 1, 1, none⟩ = some (.int .i64 q) ∧ Below w.heap.size w w' ∧ w.heap.size + 2 ≤ w'.heap.size) (with_reducible first | assumption | exact cd_start | exact cd_drew (cd_alloc cd_start0) | (refine cd_drew (cd_alloc ?_); assumption) | (refine cd_drew ?_; assumption) | (refine cd_alloc ?_; assumption) | (refine cd_keep (by assumption) ?_; assumption) | (refine cd_set (cd_set (cd_set ?_ ?_) ?_) ?_; all_goals (first | assumption | omega))) (first | (go_at_call 33; refine (cmp_any _ _ _).mono ?_; rintro e w1 ⟨rfl, rfl⟩) | (go_at_call 32; refine (or2_any _ (cmpI x p) (cmpI y q) (dotsI x y p q) HD _ (by go_simp) (by go_simp)).mono ?_; rintro e w1 ⟨rfl, rfl⟩))
  all_goals go_wp2
  all_goals go_ret
  all_goals refine ⟨rfl, ?_⟩
  all_goals first | exact cd_below (by with_reducible assumption) | exact (cd_below (by with_reducible assumption)).drew | skip

set_option maxHeartbeats 1000000 in
theorem impl_dots0 (x y u v r k : Int) (h : Hid ((dotB x y = true ∧ dotB u v = true → r = dotsI x y u v ∧ k = 0) ∧ (¬ (dotB x y = true ∧ dotB u v = true) → r = 0 ∧ k = 1))) (w : World) :
    Calls Try.prog 15 #[.agg #[.int .i64 x, .int .i64 y], .agg #[.int .i64 u, .int .i64 v]] w fun e w' => e = .returned (.tuple #[.int .i64 r, .int .i64 k]) ∧ Below w.heap.size w w' := by
  cases h1 : dotB x y
  · obtain ⟨rfl, rfl⟩ := h.out.2 (fun q => by rw [q.1] at h1; cases h1)
    go_enter Try.func15, Try.ntmps15
    go_wp2_with fail
    refine (impl_dot x y _).mono ?_
    rintro e w1 ⟨rfl, hb⟩
    have HB : Hid (Below w.heap.size w w1) := ((bel_alloc _ _).trans ((bel_alloc _ _).mono (by simp))).trans (hb.mono (by simp; omega))
    have C0 := cell_next hb (b := w.heap.size) (o := 0) (v := .int .i64 x) (by go_simp) (by first | (simp; done) | (simp; omega))
    have C1 := cell_next hb (b := w.heap.size) (o := 1) (v := .int .i64 y) (by go_simp) (by first | (simp; done) | (simp; omega))
    have D0 := cell_next hb (b := w.heap.size + 1) (o := 0) (v := .int .i64 u) (by go_simp) (by simp)
    have D1 := cell_next hb (b := w.heap.size + 1) (o := 1) (v := .int .i64 v) (by go_simp) (by simp)
    have hz := hb.size
    simp at hz
    clear hb
    go_wp2
    go_ret2
    exact ⟨rfl, HB.out⟩
  cases h2 : dotB u v
  · obtain ⟨rfl, rfl⟩ := h.out.2 (fun q => by rw [q.2] at h2; cases h2)
    go_enter Try.func15, Try.ntmps15
    go_wp2_with fail
    refine (impl_dot x y _).mono ?_
    rintro e w1 ⟨rfl, hb⟩
    have HB : Hid (Below w.heap.size w w1) := ((bel_alloc _ _).trans ((bel_alloc _ _).mono (by simp))).trans (hb.mono (by simp; omega))
    have C0 := cell_next hb (b := w.heap.size) (o := 0) (v := .int .i64 x) (by go_simp) (by first | (simp; done) | (simp; omega))
    have C1 := cell_next hb (b := w.heap.size) (o := 1) (v := .int .i64 y) (by go_simp) (by first | (simp; done) | (simp; omega))
    have D0 := cell_next hb (b := w.heap.size + 1) (o := 0) (v := .int .i64 u) (by go_simp) (by simp)
    have D1 := cell_next hb (b := w.heap.size + 1) (o := 1) (v := .int .i64 v) (by go_simp) (by simp)
    have hz := hb.size
    simp at hz
    clear hb
    go_wp2_with fail
    refine (impl_dot u v _).mono ?_
    rintro e w2 ⟨rfl, hb⟩
    replace HB := bel_next HB hb
    replace C0 := cell_next hb C0 (by omega)
    replace C1 := cell_next hb C1 (by omega)
    replace D0 := cell_next hb D0 (by omega)
    replace D1 := cell_next hb D1 (by omega)
    clear hb
    go_wp2
    go_ret2
    exact ⟨rfl, HB.out⟩
  obtain ⟨hr, rfl⟩ := h.out.1 ⟨h1, h2⟩
  have HR : Hid (r = dotsI x y u v) := hr
  clear hr h
  go_enter Try.func15, Try.ntmps15
  go_wp2_with fail
  refine (impl_dot x y _).mono ?_
  rintro e w1 ⟨rfl, hb⟩
  have HB : Hid (Below w.heap.size w w1) := ((bel_alloc _ _).trans ((bel_alloc _ _).mono (by simp))).trans (hb.mono (by simp; omega))
  have C0 := cell_next hb (b := w.heap.size) (o := 0) (v := .int .i64 x) (by go_simp) (by first | (simp; done) | (simp; omega))
  have C1 := cell_next hb (b := w.heap.size) (o := 1) (v := .int .i64 y) (by go_simp) (by first | (simp; done) | (simp; omega))
  have D0 := cell_next hb (b := w.heap.size + 1) (o := 0) (v := .int .i64 u) (by go_simp) (by simp)
  have D1 := cell_next hb (b := w.heap.size + 1) (o := 1) (v := .int .i64 v) (by go_simp) (by simp)
  have hz := hb.size
  simp at hz
  clear hb
  go_wp2_with fail
  refine (impl_dot u v _).mono ?_
  rintro e w2 ⟨rfl, hb⟩
  replace HB := bel_next HB hb
  replace C0 := cell_next hb C0 (by omega)
  replace C1 := cell_next hb C1 (by omega)
  replace D0 := cell_next hb D0 (by omega)
  replace D1 := cell_next hb D1 (by omega)
  clear hb
  go_wp2_with fail
  refine (cmpDots_any x y u v _).mono ?_
  rintro e w3 ⟨rfl, hb⟩
  replace HB := bel_next HB hb
  clear hb C0 C1 D0 D1
  go_wp2
  go_ret2
  exact ⟨ret_ints HR.out.symm rfl, HB.out⟩

theorem impl_dots (x y u v : Int) (w : World) :
    Calls Try.prog 15 #[.agg #[.int .i64 x, .int .i64 y], .agg #[.int .i64 u, .int .i64 v]] w fun e w' => e = .returned (.tuple #[.int .i64 (dotsV x y u v), .int .i64 (dotsC x y u v)]) ∧ Below w.heap.size w w' :=
  impl_dots0 x y u v _ _ ⟨fun h => ⟨by unfold dotsV; rw [if_pos h]; rfl, by unfold dotsC; rw [if_pos h]⟩, fun h => ⟨by unfold dotsV; rw [if_neg h], by unfold dotsC; rw [if_neg h]⟩⟩ w

set_option maxHeartbeats 400000 in
theorem spec_dots_bad1 (x y u v : Int) (w : World) (h1 : dotB x y = false) :
    Calls Try.prog 16 #[.agg #[.int .i64 x, .int .i64 y], .agg #[.int .i64 u, .int .i64 v]] w fun e w' => e = .returned (.tuple #[.int .i64 (0), .int .i64 1]) ∧ Below w.heap.size w w' := by
  go_enter Try.func16, Try.ntmps16
  go_wp2_with (first | (go_at_call 27; refine (spec_dotx _ _ _).mono ?_; rintro e w' ⟨rfl, rfl⟩) | go_in)
  go_ret2
  refine ⟨rfl, ?_⟩
  repeat (first | exact Below.refl _ _ | refine Below.drew ?_ | refine Below.alloc ?_ (by first | (simp; done) | (simp; omega)) _ | refine Below.setCell ?_ (by first | (simp; done) | (simp; omega)) _)

set_option maxHeartbeats 400000 in
theorem spec_dots_bad2 (x y u v : Int) (w : World) (h1 : dotB x y = true) (h2 : dotB u v = false) :
    Calls Try.prog 16 #[.agg #[.int .i64 x, .int .i64 y], .agg #[.int .i64 u, .int .i64 v]] w fun e w' => e = .returned (.tuple #[.int .i64 (0), .int .i64 1]) ∧ Below w.heap.size w w' := by
  go_enter Try.func16, Try.ntmps16
  go_wp2_with (first | (go_at_call 27; refine (spec_dotx _ _ _).mono ?_; rintro e w' ⟨rfl, rfl⟩) | go_in)
  go_ret2
  refine ⟨rfl, ?_⟩
  repeat (first | exact Below.refl _ _ | refine Below.drew ?_ | refine Below.alloc ?_ (by first | (simp; done) | (simp; omega)) _ | refine Below.setCell ?_ (by first | (simp; done) | (simp; omega)) _)

set_option maxHeartbeats 400000 in
theorem spec_dots_lt (x y u v : Int) (w : World) (h1 : dotB x y = true) (h2 : dotB u v = true) (h3 : x < u) :
    Calls Try.prog 16 #[.agg #[.int .i64 x, .int .i64 y], .agg #[.int .i64 u, .int .i64 v]] w fun e w' => e = .returned (.tuple #[.int .i64 (-1), .int .i64 0]) ∧ Below w.heap.size w w' := by
  have hne : (x == u) = false := beq_eq_false_iff_ne.2 (by omega)
  go_enter Try.func16, Try.ntmps16
  go_wp2_with (first | (go_at_call 27; refine (spec_dotx _ _ _).mono ?_; rintro e w' ⟨rfl, rfl⟩) | go_in)
  go_ret2
  refine ⟨rfl, ?_⟩
  repeat (first | exact Below.refl _ _ | refine Below.drew ?_ | refine Below.alloc ?_ (by first | (simp; done) | (simp; omega)) _ | refine Below.setCell ?_ (by first | (simp; done) | (simp; omega)) _)

set_option maxHeartbeats 400000 in
theorem spec_dots_gt (x y u v : Int) (w : World) (h1 : dotB x y = true) (h2 : dotB u v = true) (h3 : u < x) :
    Calls Try.prog 16 #[.agg #[.int .i64 x, .int .i64 y], .agg #[.int .i64 u, .int .i64 v]] w fun e w' => e = .returned (.tuple #[.int .i64 (1), .int .i64 0]) ∧ Below w.heap.size w w' := by
  have hne : (x == u) = false := beq_eq_false_iff_ne.2 (by omega)
  go_enter Try.func16, Try.ntmps16
  go_wp2_with (first | (go_at_call 27; refine (spec_dotx _ _ _).mono ?_; rintro e w' ⟨rfl, rfl⟩) | go_in)
  go_ret2
  refine ⟨rfl, ?_⟩
  repeat (first | exact Below.refl _ _ | refine Below.drew ?_ | refine Below.alloc ?_ (by first | (simp; done) | (simp; omega)) _ | refine Below.setCell ?_ (by first | (simp; done) | (simp; omega)) _)

set_option maxHeartbeats 400000 in
theorem spec_dots_eqlt (x y v : Int) (w : World) (h1 : dotB x y = true) (h2 : dotB x v = true) (h3 : y < v) :
    Calls Try.prog 16 #[.agg #[.int .i64 x, .int .i64 y], .agg #[.int .i64 x, .int .i64 v]] w fun e w' => e = .returned (.tuple #[.int .i64 (-1), .int .i64 0]) ∧ Below w.heap.size w w' := by
  have hne : (y == v) = false := beq_eq_false_iff_ne.2 (by omega)
  go_enter Try.func16, Try.ntmps16
  go_wp2_with (first | (go_at_call 27; refine (spec_dotx _ _ _).mono ?_; rintro e w' ⟨rfl, rfl⟩) | go_in)
  go_ret2
  refine ⟨rfl, ?_⟩
  repeat (first | exact Below.refl _ _ | refine Below.drew ?_ | refine Below.alloc ?_ (by first | (simp; done) | (simp; omega)) _ | refine Below.setCell ?_ (by first | (simp; done) | (simp; omega)) _)

set_option maxHeartbeats 400000 in
theorem spec_dots_eqgt (x y v : Int) (w : World) (h1 : dotB x y = true) (h2 : dotB x v = true) (h3 : v < y) :
    Calls Try.prog 16 #[.agg #[.int .i64 x, .int .i64 y], .agg #[.int .i64 x, .int .i64 v]] w fun e w' => e = .returned (.tuple #[.int .i64 (1), .int .i64 0]) ∧ Below w.heap.size w w' := by
  have hne : (y == v) = false := beq_eq_false_iff_ne.2 (by omega)
  go_enter Try.func16, Try.ntmps16
  go_wp2_with (first | (go_at_call 27; refine (spec_dotx _ _ _).mono ?_; rintro e w' ⟨rfl, rfl⟩) | go_in)
  go_ret2
  refine ⟨rfl, ?_⟩
  repeat (first | exact Below.refl _ _ | refine Below.drew ?_ | refine Below.alloc ?_ (by first | (simp; done) | (simp; omega)) _ | refine Below.setCell ?_ (by first | (simp; done) | (simp; omega)) _)

set_option maxHeartbeats 400000 in
theorem spec_dots_same (x y : Int) (w : World) (h1 : dotB x y = true) :
    Calls Try.prog 16 #[.agg #[.int .i64 x, .int .i64 y], .agg #[.int .i64 x, .int .i64 y]] w fun e w' => e = .returned (.tuple #[.int .i64 (0), .int .i64 0]) ∧ Below w.heap.size w w' := by
  go_enter Try.func16, Try.ntmps16
  go_wp2_with (first | (go_at_call 27; refine (spec_dotx _ _ _).mono ?_; rintro e w' ⟨rfl, rfl⟩) | go_in)
  go_ret2
  refine ⟨rfl, ?_⟩
  repeat (first | exact Below.refl _ _ | refine Below.drew ?_ | refine Below.alloc ?_ (by first | (simp; done) | (simp; omega)) _ | refine Below.setCell ?_ (by first | (simp; done) | (simp; omega)) _)

theorem spec_dots (x y u v : Int) (w : World) :
    Calls Try.prog 16 #[.agg #[.int .i64 x, .int .i64 y], .agg #[.int .i64 u, .int .i64 v]] w fun e w' => e = .returned (.tuple #[.int .i64 (dotsV x y u v), .int .i64 (dotsC x y u v)]) ∧ Below w.heap.size w w' := by
  by_cases h1 : dotB x y = true
  · by_cases h2 : dotB u v = true
    · have cs : x < u ∨ u < x ∨ x = u := by omega
      rcases cs with h3 | h3 | h3
      · exact (spec_dots_lt x y u v w h1 h2 h3).mono fun e w' ⟨he, hb⟩ => ⟨he.trans (ret_ints (by simp [dotsV, h1, h2, h3]) (by simp [dotsC, h1, h2])), hb⟩
      · have hn : ¬ x < u := by omega
        exact (spec_dots_gt x y u v w h1 h2 h3).mono fun e w' ⟨he, hb⟩ => ⟨he.trans (ret_ints (by simp [dotsV, h1, h2, h3, hn]) (by simp [dotsC, h1, h2])), hb⟩
      · subst h3
        have cs : y < v ∨ v < y ∨ y = v := by omega
        rcases cs with h3 | h3 | h3
        · exact (spec_dots_eqlt x y v w h1 h2 h3).mono fun e w' ⟨he, hb⟩ => ⟨he.trans (ret_ints (by simp [dotsV, cmpI, h1, h2, h3]) (by simp [dotsC, h1, h2])), hb⟩
        · have hn : ¬ y < v := by omega
          exact (spec_dots_eqgt x y v w h1 h2 h3).mono fun e w' ⟨he, hb⟩ => ⟨he.trans (ret_ints (by simp [dotsV, cmpI, h1, h2, h3, hn]) (by simp [dotsC, h1, h2])), hb⟩
        · subst h3
          exact (spec_dots_same x y w h1).mono fun e w' ⟨he, hb⟩ => ⟨he.trans (ret_ints (by simp [dotsV, cmpI, h1]) (by simp [dotsC, h1])), hb⟩
    · have h2' : dotB u v = false := by simpa using h2
      exact (spec_dots_bad2 x y u v w h1 h2').mono fun e w' ⟨he, hb⟩ => ⟨he.trans (ret_ints (by simp [dotsV, h2']) (by simp [dotsC, h2'])), hb⟩
  · have h1' : dotB x y = false := by simpa using h1
    exact (spec_dots_bad1 x y u v w h1').mono fun e w' ⟨he, hb⟩ => ⟨he.trans (ret_ints (by simp [dotsV, h1']) (by simp [dotsC, h1'])), hb⟩
end Go.Proofs.Ytlnpdcnjkjakiaa

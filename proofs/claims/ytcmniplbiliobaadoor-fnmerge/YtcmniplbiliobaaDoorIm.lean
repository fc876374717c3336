/- Dots and siblings, as the program reckons them. -/
import Derived.Test.YtcmniplbiliobaaDoorRows
import Derived.WalkKit
import Derived.WalkSpells
import Derived.WalkLawsBesides
import Derived.Deep.QuietTactic
import Derived.BigQuiet
import Derived.Deep.RegionHeld3
import Derived.Test.YtcmniplbiliobaaDoorVi
import Derived.Test.YtcmniplbiliobaaDoorOk
import Derived.LoopN
import Derived.RegionTactic
import Derived.BigRegion
import Derived.Deep.RegionWith
namespace Go.Proofs.YtcmniplbiliobaaDoor
open Go.RowKit
set_option linter.unusedSimpArgs false
set_option linter.unusedVariables false

set_option maxHeartbeats 1000000 in
theorem knows_0true (a b c q : Int) (w : World) (hq : q ≤ a) :
    Calls Tryd.prog 63 #[.agg #[.int .i64 a, .int .i64 b, .int .i64 c], .agg #[.int .i64 0, .int .i64 q]] w fun e w' => e = .returned (.bool true) ∧ Below w.heap.size w w' := by
  have dq : decide (q ≤ a) = true := by simp; omega
  go_enter Tryd.func63, Tryd.ntmps63
  go_wp2
  go_quiet (fail)
  go_wp2
  go_ret
  refine ⟨ret_bool (by simp [dq]), ?_⟩
  repeat (first | exact Below.refl _ _ | refine Below.drew ?_ | refine below_drewN ?_ _ | refine Below.alloc ?_ (by first | (simp; done) | (simp; omega)) _ | refine Below.setCell ?_ (by first | (simp; done) | (simp; omega)) _)

set_option maxHeartbeats 1000000 in
theorem knows_0false (a b c q : Int) (w : World) (hq : a < q) :
    Calls Tryd.prog 63 #[.agg #[.int .i64 a, .int .i64 b, .int .i64 c], .agg #[.int .i64 0, .int .i64 q]] w fun e w' => e = .returned (.bool false) ∧ Below w.heap.size w w' := by
  have dq : decide (q ≤ a) = false := by simp; omega
  go_enter Tryd.func63, Tryd.ntmps63
  go_wp2
  go_quiet (fail)
  go_wp2
  go_ret
  refine ⟨ret_bool (by simp [dq]), ?_⟩
  repeat (first | exact Below.refl _ _ | refine Below.drew ?_ | refine below_drewN ?_ _ | refine Below.alloc ?_ (by first | (simp; done) | (simp; omega)) _ | refine Below.setCell ?_ (by first | (simp; done) | (simp; omega)) _)

set_option maxHeartbeats 1000000 in
theorem knows_1true (a b c q : Int) (w : World) (hq : q ≤ b) :
    Calls Tryd.prog 63 #[.agg #[.int .i64 a, .int .i64 b, .int .i64 c], .agg #[.int .i64 1, .int .i64 q]] w fun e w' => e = .returned (.bool true) ∧ Below w.heap.size w w' := by
  have dq : decide (q ≤ b) = true := by simp; omega
  go_enter Tryd.func63, Tryd.ntmps63
  go_wp2
  go_quiet (fail)
  go_wp2
  go_ret
  refine ⟨ret_bool (by simp [dq]), ?_⟩
  repeat (first | exact Below.refl _ _ | refine Below.drew ?_ | refine below_drewN ?_ _ | refine Below.alloc ?_ (by first | (simp; done) | (simp; omega)) _ | refine Below.setCell ?_ (by first | (simp; done) | (simp; omega)) _)

set_option maxHeartbeats 1000000 in
theorem knows_1false (a b c q : Int) (w : World) (hq : b < q) :
    Calls Tryd.prog 63 #[.agg #[.int .i64 a, .int .i64 b, .int .i64 c], .agg #[.int .i64 1, .int .i64 q]] w fun e w' => e = .returned (.bool false) ∧ Below w.heap.size w w' := by
  have dq : decide (q ≤ b) = false := by simp; omega
  go_enter Tryd.func63, Tryd.ntmps63
  go_wp2
  go_quiet (fail)
  go_wp2
  go_ret
  refine ⟨ret_bool (by simp [dq]), ?_⟩
  repeat (first | exact Below.refl _ _ | refine Below.drew ?_ | refine below_drewN ?_ _ | refine Below.alloc ?_ (by first | (simp; done) | (simp; omega)) _ | refine Below.setCell ?_ (by first | (simp; done) | (simp; omega)) _)

set_option maxHeartbeats 1000000 in
theorem knows_2true (a b c q : Int) (w : World) (hq : q ≤ c) :
    Calls Tryd.prog 63 #[.agg #[.int .i64 a, .int .i64 b, .int .i64 c], .agg #[.int .i64 2, .int .i64 q]] w fun e w' => e = .returned (.bool true) ∧ Below w.heap.size w w' := by
  have dq : decide (q ≤ c) = true := by simp; omega
  go_enter Tryd.func63, Tryd.ntmps63
  go_wp2
  go_quiet (fail)
  go_wp2
  go_ret
  refine ⟨ret_bool (by simp [dq]), ?_⟩
  repeat (first | exact Below.refl _ _ | refine Below.drew ?_ | refine below_drewN ?_ _ | refine Below.alloc ?_ (by first | (simp; done) | (simp; omega)) _ | refine Below.setCell ?_ (by first | (simp; done) | (simp; omega)) _)

set_option maxHeartbeats 1000000 in
theorem knows_2false (a b c q : Int) (w : World) (hq : c < q) :
    Calls Tryd.prog 63 #[.agg #[.int .i64 a, .int .i64 b, .int .i64 c], .agg #[.int .i64 2, .int .i64 q]] w fun e w' => e = .returned (.bool false) ∧ Below w.heap.size w w' := by
  have dq : decide (q ≤ c) = false := by simp; omega
  go_enter Tryd.func63, Tryd.ntmps63
  go_wp2
  go_quiet (fail)
  go_wp2
  go_ret
  refine ⟨ret_bool (by simp [dq]), ?_⟩
  repeat (first | exact Below.refl _ _ | refine Below.drew ?_ | refine below_drewN ?_ _ | refine Below.alloc ?_ (by first | (simp; done) | (simp; omega)) _ | refine Below.setCell ?_ (by first | (simp; done) | (simp; omega)) _)

theorem knows_any (a b c p q : Int) (w : World) (h0 : 0 ≤ p) (h3 : p < 3) :
    Calls Tryd.prog 63 #[.agg #[.int .i64 a, .int .i64 b, .int .i64 c], .agg #[.int .i64 p, .int .i64 q]] w fun e w' => e = .returned (.bool (decide (q ≤ comp a b c p))) ∧ Below w.heap.size w w' := by
  have hp : p = 0 ∨ p = 1 ∨ p = 2 := by omega
  rcases hp with rfl | rfl | rfl
  · by_cases h : q ≤ a
    · exact (knows_0true a b c q w h).mono fun e w' ⟨he, hb⟩ => ⟨he.trans (ret_bool (by simp [comp, h])), hb⟩
    · exact (knows_0false a b c q w (by omega)).mono fun e w' ⟨he, hb⟩ => ⟨he.trans (ret_bool (by simp [comp, h])), hb⟩
  · by_cases h : q ≤ b
    · exact (knows_1true a b c q w h).mono fun e w' ⟨he, hb⟩ => ⟨he.trans (ret_bool (by simp [comp, h])), hb⟩
    · exact (knows_1false a b c q w (by omega)).mono fun e w' ⟨he, hb⟩ => ⟨he.trans (ret_bool (by simp [comp, h])), hb⟩
  · by_cases h : q ≤ c
    · exact (knows_2true a b c q w h).mono fun e w' ⟨he, hb⟩ => ⟨he.trans (ret_bool (by simp [comp, h])), hb⟩
    · exact (knows_2false a b c q w (by omega)).mono fun e w' ⟨he, hb⟩ => ⟨he.trans (ret_bool (by simp [comp, h])), hb⟩

def valB (v : Int) (d : Bool) : Bool := (decide (0 ≤ v) && decide (v ≤ 999)) && (!d || v == 0)
set_option maxHeartbeats 1000000 in
theorem valueOK_any (v : Int) (d : Bool) (w : World) :
    Calls Tryd.prog 83 #[.int .i64 v, .bool d] w fun e w' => e = .returned (.bool (valB v d)) ∧ w' = w := by
  have cs : (d = true ∧ v = 0) ∨ (d = true ∧ v ≠ 0) ∨ (d = false ∧ v < 0) ∨ (d = false ∧ 999 < v) ∨ (d = false ∧ 0 ≤ v ∧ v ≤ 999) := by
    cases d <;> simp <;> omega
  rcases cs with ⟨rfl, rfl⟩ | ⟨rfl, h⟩ | ⟨rfl, h⟩ | ⟨rfl, h⟩ | ⟨rfl, h, h2⟩
  · go_enter Tryd.func83, Tryd.ntmps83
    go_wp2
    go_ret
    exact ⟨rfl, rfl⟩
  · have HR : Hid (valB v true = false) := by unfold Hid valB; simp [h]
    have d0 : (v == 0) = false := beq_eq_false_iff_ne.2 h
    go_enter Tryd.func83, Tryd.ntmps83
    go_wp2
    go_ret
    exact ⟨ret_bool HR.out.symm, rfl⟩
  · have HR : Hid (valB v false = false) := by
      have q : ¬ 0 ≤ v := by omega
      unfold Hid valB; simp [q]
    have d0 : decide (0 ≤ v) = false := decide_eq_false (by omega)
    go_enter Tryd.func83, Tryd.ntmps83
    go_wp2
    go_ret
    exact ⟨ret_bool HR.out.symm, rfl⟩
  · have HR : Hid (valB v false = false) := by
      have q : ¬ v ≤ 999 := by omega
      unfold Hid valB; simp [q]
    have d0 : 0 ≤ v := by omega
    have d1 : decide (v ≤ 999) = false := decide_eq_false (by omega)
    go_enter Tryd.func83, Tryd.ntmps83
    go_wp2
    go_ret
    exact ⟨ret_bool HR.out.symm, rfl⟩
  · have HR : Hid (valB v false = true) := by unfold Hid valB; simp [h, h2]
    go_enter Tryd.func83, Tryd.ntmps83
    go_wp2
    go_ret
    exact ⟨ret_bool HR.out.symm, rfl⟩

theorem sib_val (p n v : Int) (d : Bool) : sibOK p n v d = (dotB p n && valB v d) := by
  unfold sibOK valB
  rw [Bool.and_assoc]
set_option maxHeartbeats 1000000 in
theorem implSib_any (p n v : Int) (d : Bool) (w : World) :
    Calls Tryd.prog 62 #[.agg #[.int .i64 p, .int .i64 n, .int .i64 v, .bool d]] w fun e w' => e = .returned (.bool (sibOK p n v d)) ∧ Below w.heap.size w w' := by
  have HS : Hid (sibOK p n v d = (dotB p n && valB v d)) := sib_val p n v d
  cases h : dotB p n
  · go_enter Tryd.func62, Tryd.ntmps62
    go_wp2_with fail
    refine (impl_dot p n _).mono ?_
    rintro e w1 ⟨rfl, hb⟩
    have hz := hb.size
    simp at hz
    have C2 := cell_next hb (b := w.heap.size) (o := 2) (v := .int .i64 v) (by go_simp) (by simp)
    have C3 := cell_next hb (b := w.heap.size) (o := 3) (v := .bool d) (by go_simp) (by simp)
    have hB : Hid (Below w.heap.size w w1) := ((Below.refl _ _).alloc (Nat.le_refl _) _).trans (hb.mono (by simp))
    clear hb
    go_wp2
    go_ret
    exact ⟨ret_bool (by rw [HS.out, h]; rfl), hB.out⟩
  · go_enter Tryd.func62, Tryd.ntmps62
    go_wp2_with fail
    refine (impl_dot p n _).mono ?_
    rintro e w1 ⟨rfl, hb⟩
    have hz := hb.size
    simp at hz
    have C2 := cell_next hb (b := w.heap.size) (o := 2) (v := .int .i64 v) (by go_simp) (by simp)
    have C3 := cell_next hb (b := w.heap.size) (o := 3) (v := .bool d) (by go_simp) (by simp)
    have hB : Hid (Below w.heap.size w w1) := ((Below.refl _ _).alloc (Nat.le_refl _) _).trans (hb.mono (by simp))
    clear hb
    go_wp2_with fail
    refine (valueOK_any v d _).mono ?_
    rintro e w2 ⟨rfl, rfl⟩
    go_wp2
    go_ret
    exact ⟨ret_bool (by rw [HS.out, h]; rfl), hB.out⟩

def cmpI (x y : Int) : Int := if x < y then -1 else if y < x then 1 else 0
set_option maxHeartbeats 400000 in
theorem cmp_any (x y : Int) (w : World) :
    Calls Tryd.prog 85 #[.int .i64 x, .int .i64 y] w fun e w' => e = .returned (.int .i64 (cmpI x y)) ∧ w' = w := by
  have cs : x < y ∨ y < x ∨ x = y := by omega
  rcases cs with h | h | h
  case inr.inr =>
    subst h
    have HB : Hid (cmpI x x = 0) := by unfold Hid cmpI; simp
    go_enter Tryd.func85, Tryd.ntmps85
    go_wp2
    go_ret
    exact ⟨ret_int HB.out.symm, rfl⟩
  case inl =>
    have HB : Hid (cmpI x y = -1) := by unfold Hid cmpI; simp [h]
    go_enter Tryd.func85, Tryd.ntmps85
    go_wp2
    go_ret
    exact ⟨ret_int HB.out.symm, rfl⟩
  case inr.inl =>
    have HB : Hid (cmpI x y = 1) := by unfold Hid cmpI; rw [if_neg (by omega), if_pos h]
    go_enter Tryd.func85, Tryd.ntmps85
    go_wp2
    go_ret
    exact ⟨ret_int HB.out.symm, rfl⟩
set_option maxHeartbeats 1000000 in
theorem or2_any (g : Nat) (x y r : Int) (hr : Hid (r = if x = 0 then y else x)) (w : World) (c0 : w.cell? ⟨g, 0, none⟩ = some (.int .i64 x)) (c1 : w.cell? ⟨g, 1, none⟩ = some (.int .i64 y)) :
    Calls Tryd.prog 84 #[.slice (some ⟨g, 0, none⟩) 2 2] w fun e w' => e = .returned (.int .i64 r) ∧ w' = w := by
  by_cases hx : x = 0
  · subst hx
    have HR : Hid (r = y) := hr.out.trans (if_pos rfl)
    by_cases hy : y = 0
    · subst hy
      go_enter Tryd.func84, Tryd.ntmps84
      go_wp2
      refine wp_loop_rounds 3 ?_
      repeat (rw [rounds_succ]; go_wp2)
      go_ret
      exact ⟨ret_int HR.out.symm, rfl⟩
    · have d0 : (y == 0) = false := beq_eq_false_iff_ne.2 hy
      go_enter Tryd.func84, Tryd.ntmps84
      go_wp2
      refine wp_loop_rounds 3 ?_
      repeat (rw [rounds_succ]; go_wp2)
      go_ret
      exact ⟨ret_int HR.out.symm, rfl⟩
  · have d0 : (x == 0) = false := beq_eq_false_iff_ne.2 hx
    have HR : Hid (r = x) := hr.out.trans (if_neg hx)
    go_enter Tryd.func84, Tryd.ntmps84
    go_wp2
    refine wp_loop_rounds 3 ?_
    repeat (rw [rounds_succ]; go_wp2)
    go_ret
    exact ⟨ret_int HR.out.symm, rfl⟩
theorem dots_or (x y u v : Int) : (if cmpI x u = 0 then cmpI y v else cmpI x u) = dotsI x y u v := by
  unfold cmpI dotsI
  by_cases h1 : x < u
  · simp [h1]
  · by_cases h2 : u < x
    · simp [h1, h2]
    · simp [h1, h2]

theorem cd_keep {x y p q : Int} {w W W' : World} (hb : Below W.heap.size W W') (h : W.cell? ⟨w.heap.size, 0, none⟩ = some (.int .i64 x) ∧ W.cell? ⟨w.heap.size, 1, none⟩ = some (.int .i64 y) ∧ W.cell? ⟨w.heap.size + 1, 0, none⟩ = some (.int .i64 p) ∧ W.cell? ⟨w.heap.size + 1, 1, none⟩ = some (.int .i64 q) ∧ Below w.heap.size w W ∧ w.heap.size + 2 ≤ W.heap.size) : W'.cell? ⟨w.heap.size, 0, none⟩ = some (.int .i64 x) ∧ W'.cell? ⟨w.heap.size, 1, none⟩ = some (.int .i64 y) ∧ W'.cell? ⟨w.heap.size + 1, 0, none⟩ = some (.int .i64 p) ∧ W'.cell? ⟨w.heap.size + 1, 1, none⟩ = some (.int .i64 q) ∧ Below w.heap.size w W' ∧ w.heap.size + 2 ≤ W'.heap.size := by
  obtain ⟨c0, c1, c2, c3, hB, hz⟩ := h
  have hq := hb.size
  exact ⟨cell_next hb c0 (by omega), cell_next hb c1 (by omega), cell_next hb c2 (by omega), cell_next hb c3 (by omega), hB.trans (hb.mono (by omega)), by omega⟩
theorem cd_alloc {x y p q : Int} {w W : World} {ob : Obj} (h : W.cell? ⟨w.heap.size, 0, none⟩ = some (.int .i64 x) ∧ W.cell? ⟨w.heap.size, 1, none⟩ = some (.int .i64 y) ∧ W.cell? ⟨w.heap.size + 1, 0, none⟩ = some (.int .i64 p) ∧ W.cell? ⟨w.heap.size + 1, 1, none⟩ = some (.int .i64 q) ∧ Below w.heap.size w W ∧ w.heap.size + 2 ≤ W.heap.size) : (W.alloc ob).cell? ⟨w.heap.size, 0, none⟩ = some (.int .i64 x) ∧ (W.alloc ob).cell? ⟨w.heap.size, 1, none⟩ = some (.int .i64 y) ∧ (W.alloc ob).cell? ⟨w.heap.size + 1, 0, none⟩ = some (.int .i64 p) ∧ (W.alloc ob).cell? ⟨w.heap.size + 1, 1, none⟩ = some (.int .i64 q) ∧ Below w.heap.size w (W.alloc ob) ∧ w.heap.size + 2 ≤ (W.alloc ob).heap.size := cd_keep ((Below.refl _ _).alloc (Nat.le_refl _) _) h
theorem cd_drew {x y p q : Int} {w W : World} (h : W.cell? ⟨w.heap.size, 0, none⟩ = some (.int .i64 x) ∧ W.cell? ⟨w.heap.size, 1, none⟩ = some (.int .i64 y) ∧ W.cell? ⟨w.heap.size + 1, 0, none⟩ = some (.int .i64 p) ∧ W.cell? ⟨w.heap.size + 1, 1, none⟩ = some (.int .i64 q) ∧ Below w.heap.size w W ∧ w.heap.size + 2 ≤ W.heap.size) : W.drew.cell? ⟨w.heap.size, 0, none⟩ = some (.int .i64 x) ∧ W.drew.cell? ⟨w.heap.size, 1, none⟩ = some (.int .i64 y) ∧ W.drew.cell? ⟨w.heap.size + 1, 0, none⟩ = some (.int .i64 p) ∧ W.drew.cell? ⟨w.heap.size + 1, 1, none⟩ = some (.int .i64 q) ∧ Below w.heap.size w W.drew ∧ w.heap.size + 2 ≤ W.drew.heap.size := by
  obtain ⟨c0, c1, c2, c3, hB, hz⟩ := h
  exact ⟨c0, c1, c2, c3, hB.drew, hz⟩
theorem cd_below {x y p q : Int} {w W : World} (h : W.cell? ⟨w.heap.size, 0, none⟩ = some (.int .i64 x) ∧ W.cell? ⟨w.heap.size, 1, none⟩ = some (.int .i64 y) ∧ W.cell? ⟨w.heap.size + 1, 0, none⟩ = some (.int .i64 p) ∧ W.cell? ⟨w.heap.size + 1, 1, none⟩ = some (.int .i64 q) ∧ Below w.heap.size w W ∧ w.heap.size + 2 ≤ W.heap.size) : Below w.heap.size w W := by
  obtain ⟨c0, c1, c2, c3, hB, hz⟩ := h
  exact hB
theorem cd_size {x y p q : Int} {w W : World} (h : W.cell? ⟨w.heap.size, 0, none⟩ = some (.int .i64 x) ∧ W.cell? ⟨w.heap.size, 1, none⟩ = some (.int .i64 y) ∧ W.cell? ⟨w.heap.size + 1, 0, none⟩ = some (.int .i64 p) ∧ W.cell? ⟨w.heap.size + 1, 1, none⟩ = some (.int .i64 q) ∧ Below w.heap.size w W ∧ w.heap.size + 2 ≤ W.heap.size) : w.heap.size + 2 ≤ W.heap.size := by
  obtain ⟨c0, c1, c2, c3, hB, hz⟩ := h
  exact hz

theorem cd_set {x y p q : Int} {w W : World} {t j : Nat} {u : Value} (h : W.cell? ⟨w.heap.size, 0, none⟩ = some (.int .i64 x) ∧ W.cell? ⟨w.heap.size, 1, none⟩ = some (.int .i64 y) ∧ W.cell? ⟨w.heap.size + 1, 0, none⟩ = some (.int .i64 p) ∧ W.cell? ⟨w.heap.size + 1, 1, none⟩ = some (.int .i64 q) ∧ Below w.heap.size w W ∧ w.heap.size + 2 ≤ W.heap.size) (ht : w.heap.size + 2 ≤ t) : (W.setCell ⟨t, j, none⟩ u).cell? ⟨w.heap.size, 0, none⟩ = some (.int .i64 x) ∧ (W.setCell ⟨t, j, none⟩ u).cell? ⟨w.heap.size, 1, none⟩ = some (.int .i64 y) ∧ (W.setCell ⟨t, j, none⟩ u).cell? ⟨w.heap.size + 1, 0, none⟩ = some (.int .i64 p) ∧ (W.setCell ⟨t, j, none⟩ u).cell? ⟨w.heap.size + 1, 1, none⟩ = some (.int .i64 q) ∧ Below w.heap.size w (W.setCell ⟨t, j, none⟩ u) ∧ w.heap.size + 2 ≤ (W.setCell ⟨t, j, none⟩ u).heap.size := by
  obtain ⟨c0, c1, c2, c3, hB, hz⟩ := h
  exact ⟨cell_set c0 (by omega), cell_set c1 (by omega), cell_set c2 (by omega), cell_set c3 (by omega), hB.setCell (by simp; omega) _, by simpa [World.setCell] using hz⟩

theorem cd_start {x y p q : Int} {w : World} : ((w.alloc (.cells #[.int .i64 x, .int .i64 y] 72)).alloc (.cells #[.int .i64 p, .int .i64 q] 72)).drew.cell? ⟨w.heap.size, 0, none⟩ = some (.int .i64 x) ∧ ((w.alloc (.cells #[.int .i64 x, .int .i64 y] 72)).alloc (.cells #[.int .i64 p, .int .i64 q] 72)).drew.cell? ⟨w.heap.size, 1, none⟩ = some (.int .i64 y) ∧ ((w.alloc (.cells #[.int .i64 x, .int .i64 y] 72)).alloc (.cells #[.int .i64 p, .int .i64 q] 72)).drew.cell? ⟨w.heap.size + 1, 0, none⟩ = some (.int .i64 p) ∧ ((w.alloc (.cells #[.int .i64 x, .int .i64 y] 72)).alloc (.cells #[.int .i64 p, .int .i64 q] 72)).drew.cell? ⟨w.heap.size + 1, 1, none⟩ = some (.int .i64 q) ∧ Below w.heap.size w ((w.alloc (.cells #[.int .i64 x, .int .i64 y] 72)).alloc (.cells #[.int .i64 p, .int .i64 q] 72)).drew ∧ w.heap.size + 2 ≤ ((w.alloc (.cells #[.int .i64 x, .int .i64 y] 72)).alloc (.cells #[.int .i64 p, .int .i64 q] 72)).drew.heap.size := by
  refine ⟨?_, ?_, ?_, ?_, (((Below.refl _ _).alloc (by simp) _).alloc (by simp) _).drew, ?_⟩
  all_goals first | (go_simp; done) | (simp; done) | (simp; omega)
theorem cd_start0 {x y p q : Int} {w : World} : ((w.alloc (.cells #[.int .i64 x, .int .i64 y] 72)).alloc (.cells #[.int .i64 p, .int .i64 q] 72)).cell? ⟨w.heap.size, 0, none⟩ = some (.int .i64 x) ∧ ((w.alloc (.cells #[.int .i64 x, .int .i64 y] 72)).alloc (.cells #[.int .i64 p, .int .i64 q] 72)).cell? ⟨w.heap.size, 1, none⟩ = some (.int .i64 y) ∧ ((w.alloc (.cells #[.int .i64 x, .int .i64 y] 72)).alloc (.cells #[.int .i64 p, .int .i64 q] 72)).cell? ⟨w.heap.size + 1, 0, none⟩ = some (.int .i64 p) ∧ ((w.alloc (.cells #[.int .i64 x, .int .i64 y] 72)).alloc (.cells #[.int .i64 p, .int .i64 q] 72)).cell? ⟨w.heap.size + 1, 1, none⟩ = some (.int .i64 q) ∧ Below w.heap.size w ((w.alloc (.cells #[.int .i64 x, .int .i64 y] 72)).alloc (.cells #[.int .i64 p, .int .i64 q] 72)) ∧ w.heap.size + 2 ≤ ((w.alloc (.cells #[.int .i64 x, .int .i64 y] 72)).alloc (.cells #[.int .i64 p, .int .i64 q] 72)).heap.size := by
  refine ⟨?_, ?_, ?_, ?_, (((Below.refl _ _).alloc (by simp) _).alloc (by simp) _), ?_⟩
  all_goals first | (go_simp; done) | (simp; done) | (simp; omega)

set_option maxHeartbeats 2000000 in
theorem cmpDots_any (x y p q : Int) (w : World) :
    Calls Tryd.prog 64 #[.agg #[.int .i64 x, .int .i64 y], .agg #[.int .i64 p, .int .i64 q]] w fun e w' => e = .returned (.int .i64 (dotsI x y p q)) ∧ Below w.heap.size w w' := by
  have HD : Hid (dotsI x y p q = if cmpI x p = 0 then cmpI y q else cmpI x p) := (dots_or x y p q).symm
  go_enter Tryd.func64, Tryd.ntmps64
  go_wp2_with fail
  go_region_held3 (fun w' => w'.cell? ⟨w.heap.size, 0, none⟩ = some (.int .i64 x) ∧ w'.cell? ⟨w.heap.size, 1, none⟩ = some (.int .i64 y) ∧ w'.cell? ⟨w.heap.size + 1, 0, none⟩ = some (.int .i64 p) ∧ w'.cell? ⟨w.heap.size + 1, 1, none⟩ = some (.int .i64 q) ∧ Below w.heap.size w w' ∧ w.heap.size + 2 ≤ w'.heap.size) (with_reducible first | assumption | exact cd_start | exact cd_drew (cd_alloc cd_start0) | (refine cd_drew (cd_alloc ?_); assumption) | (refine cd_drew ?_; assumption) | (refine cd_alloc ?_; assumption) | (refine cd_keep (by assumption) ?_; assumption) | (refine cd_set (cd_set (cd_set ?_ ?_) ?_) ?_; all_goals (first | assumption | omega))) (first | (go_at_call 85; refine (cmp_any _ _ _).mono ?_; rintro e w1 ⟨rfl, rfl⟩) | (go_at_call 84; refine (or2_any _ (cmpI x p) (cmpI y q) (dotsI x y p q) HD _ (by go_simp) (by go_simp)).mono ?_; rintro e w1 ⟨rfl, rfl⟩))
  all_goals go_wp2
  all_goals go_ret
  all_goals refine ⟨rfl, ?_⟩
  all_goals first | exact cd_below (by with_reducible assumption) | exact (cd_below (by with_reducible assumption)).drew | skip
end Go.Proofs.YtcmniplbiliobaaDoor

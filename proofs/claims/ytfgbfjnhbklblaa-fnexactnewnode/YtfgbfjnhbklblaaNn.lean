/- New nodes: empty lists are alike, marked and held as they are; the law of NewNode. -/
import Derived.Test.YtfgbfjnhbklblaaRows
import Derived.WalkKit
import Derived.WalkSpells
import Derived.WalkLawsBesides
import Derived.Deep.QuietTactic
import Derived.BigQuiet
import Derived.Deep.RegionHeld3
import Derived.LoopN
namespace Go.Proofs.Ytfgbfjnhbklblaa
open Go.RowKit
set_option linter.unusedSimpArgs false
set_option linter.unusedVariables false

theorem ret_bool {a b : Bool} (h : a = b) : Ending.returned (.bool a) = .returned (.bool b) := by rw [h]
theorem ret_int {k : IntKind} {a b : Int} (h : a = b) : Ending.returned (.int k a) = .returned (.int k b) := by rw [h]
theorem ret_ints {a b c d : Int} (h : a = b) (k : c = d) : Ending.returned (.tuple #[.int .i64 a, .int .i64 c]) = .returned (.tuple #[.int .i64 b, .int .i64 d]) := by rw [h, k]
theorem ret_bint {a b : Bool} {c d : Int} (h : a = b) (k : c = d) : Ending.returned (.tuple #[.bool a, .int .i64 c]) = .returned (.tuple #[.bool b, .int .i64 d]) := by rw [h, k]
theorem ret_vint {a b c a' b' c' : Int} {r r' : Int} (h : a = a') (k : b = b') (l : c = c') (m : r = r') : Ending.returned (.tuple #[.agg #[.int .i64 a, .int .i64 b, .int .i64 c], .int .i64 r]) = .returned (.tuple #[.agg #[.int .i64 a', .int .i64 b', .int .i64 c'], .int .i64 r']) := by rw [h, k, l, m]
theorem ret_v {a b c a' b' c' : Int} (h : a = a') (k : b = b') (l : c = c') : Ending.returned (.agg #[.int .i64 a, .int .i64 b, .int .i64 c]) = .returned (.agg #[.int .i64 a', .int .i64 b', .int .i64 c']) := by rw [h, k, l]
theorem bcell {W w1 : World} (hb : Below W.heap.size W w1) : (∀ b o, b < W.heap.size → w1.cell? ⟨b, o, none⟩ = W.cell? ⟨b, o, none⟩) ∧ (∀ b o, b < W.heap.size → w1.frozen? ⟨b, o, none⟩ = W.frozen? ⟨b, o, none⟩) :=
  ⟨fun b o h => hb.cell (p := ⟨b, o, none⟩) h, fun b o h => hb.frozen (p := ⟨b, o, none⟩) h⟩
theorem cell_next {W w1 : World} (hb : Below W.heap.size W w1) {b o : Nat} {v : Value} (h : W.cell? ⟨b, o, none⟩ = some v) (hs : b < W.heap.size) : w1.cell? ⟨b, o, none⟩ = some v := by
  rw [hb.cell (p := ⟨b, o, none⟩) hs]; exact h
theorem cell_set {W : World} {b o t j : Nat} {v u : Value} (h : W.cell? ⟨b, o, none⟩ = some v) (hne : b ≠ t) : (W.setCell ⟨t, j, none⟩ u).cell? ⟨b, o, none⟩ = some v := by
  rw [World.cell?_of_block (w := W) (Below.heap_setCell W ⟨t, j, none⟩ u b (by simpa using hne))]; exact h
theorem frozen_next {W w1 : World} (hb : Below W.heap.size W w1) {b o : Nat} (h : W.frozen? ⟨b, o, none⟩ = false) (hs : b < W.heap.size) : w1.frozen? ⟨b, o, none⟩ = false := by
  rw [hb.frozen (p := ⟨b, o, none⟩) hs]; exact h

def Fr7 (W : World) (g : Nat) : Prop := (W.cell? ⟨g, 0, none⟩ = some (.int .i64 0) ∧ W.cell? ⟨g, 1, none⟩ = some (.int .i64 0) ∧ W.cell? ⟨g, 2, none⟩ = some (.int .i64 0) ∧ W.cell? ⟨g, 3, none⟩ = some (.slice none 0 0) ∧ W.cell? ⟨g, 4, none⟩ = some (.slice none 0 0) ∧ W.cell? ⟨g, 5, none⟩ = some (.slice none 0 0) ∧ W.cell? ⟨g, 6, none⟩ = some (.slice none 0 0)) ∧ W.frozen? ⟨g, 0, none⟩ = false ∧ W.frozen? ⟨g, 1, none⟩ = false ∧ W.frozen? ⟨g, 2, none⟩ = false ∧ W.frozen? ⟨g, 3, none⟩ = false ∧ W.frozen? ⟨g, 4, none⟩ = false ∧ W.frozen? ⟨g, 5, none⟩ = false ∧ W.frozen? ⟨g, 6, none⟩ = false
theorem fr7_next0 {W W' : World} {g : Nat} (h : Fr7 W g) (hl : g < W.heap.size) (hb : Below W.heap.size W W') : Fr7 W' g := by
  obtain ⟨⟨k0, k1, k2, k3, k4, k5, k6⟩, z0, z1, z2, z3, z4, z5, z6⟩ := h
  exact ⟨⟨cell_next hb k0 hl, cell_next hb k1 hl, cell_next hb k2 hl, cell_next hb k3 hl, cell_next hb k4 hl, cell_next hb k5 hl, cell_next hb k6 hl⟩, frozen_next hb z0 hl, frozen_next hb z1 hl, frozen_next hb z2 hl, frozen_next hb z3 hl, frozen_next hb z4 hl, frozen_next hb z5 hl, frozen_next hb z6 hl⟩
theorem fr7_new {W w1 : World} {t : TypeId} (hb : Below (W.alloc (.cells #[.int .i64 0, .int .i64 0, .int .i64 0, .slice none 0 0, .slice none 0 0, .slice none 0 0, .slice none 0 0] t)).heap.size (W.alloc (.cells #[.int .i64 0, .int .i64 0, .int .i64 0, .slice none 0 0, .slice none 0 0, .slice none 0 0, .slice none 0 0] t)) w1) : Hid (Fr7 w1 W.heap.size) :=
  fr7_next0 (by refine ⟨⟨?_, ?_, ?_, ?_, ?_, ?_, ?_⟩, ?_, ?_, ?_, ?_, ?_, ?_, ?_⟩ <;> go_simp) (by simp) hb
theorem fr7_next {W W' : World} {g : Nat} (h : Hid (Fr7 W g)) (hl : Hid (g < W.heap.size)) (hb : Below W.heap.size W W') : Hid (Fr7 W' g) := fr7_next0 h.out hl.out hb
theorem bel_next {w W W' : World} (h : Hid (Below w.heap.size w W)) (hb : Below W.heap.size W W') : Hid (Below w.heap.size w W') := h.out.trans (hb.mono h.out.size)
theorem bel_set {w W : World} {g o : Nat} {u : Value} (h : Below w.heap.size w W) (hg : w.heap.size ≤ g) : Below w.heap.size w (W.setCell ⟨g, o, none⟩ u) := h.setCell (by simpa using hg) _
theorem fr7_set {W : World} {g : Nat} {v0 v1 v2 v3 v4 v5 v6 : Value} (h : Fr7 W g) : (((((((W.setCell ⟨g, 0, none⟩ v0).setCell ⟨g, 1, none⟩ v1).setCell ⟨g, 2, none⟩ v2).setCell ⟨g, 3, none⟩ v3).setCell ⟨g, 4, none⟩ v4).setCell ⟨g, 5, none⟩ v5).setCell ⟨g, 6, none⟩ v6).cell? ⟨g, 0, none⟩ = some v0 ∧ (((((((W.setCell ⟨g, 0, none⟩ v0).setCell ⟨g, 1, none⟩ v1).setCell ⟨g, 2, none⟩ v2).setCell ⟨g, 3, none⟩ v3).setCell ⟨g, 4, none⟩ v4).setCell ⟨g, 5, none⟩ v5).setCell ⟨g, 6, none⟩ v6).cell? ⟨g, 1, none⟩ = some v1 ∧ (((((((W.setCell ⟨g, 0, none⟩ v0).setCell ⟨g, 1, none⟩ v1).setCell ⟨g, 2, none⟩ v2).setCell ⟨g, 3, none⟩ v3).setCell ⟨g, 4, none⟩ v4).setCell ⟨g, 5, none⟩ v5).setCell ⟨g, 6, none⟩ v6).cell? ⟨g, 2, none⟩ = some v2 ∧ (((((((W.setCell ⟨g, 0, none⟩ v0).setCell ⟨g, 1, none⟩ v1).setCell ⟨g, 2, none⟩ v2).setCell ⟨g, 3, none⟩ v3).setCell ⟨g, 4, none⟩ v4).setCell ⟨g, 5, none⟩ v5).setCell ⟨g, 6, none⟩ v6).cell? ⟨g, 3, none⟩ = some v3 ∧ (((((((W.setCell ⟨g, 0, none⟩ v0).setCell ⟨g, 1, none⟩ v1).setCell ⟨g, 2, none⟩ v2).setCell ⟨g, 3, none⟩ v3).setCell ⟨g, 4, none⟩ v4).setCell ⟨g, 5, none⟩ v5).setCell ⟨g, 6, none⟩ v6).cell? ⟨g, 4, none⟩ = some v4 ∧ (((((((W.setCell ⟨g, 0, none⟩ v0).setCell ⟨g, 1, none⟩ v1).setCell ⟨g, 2, none⟩ v2).setCell ⟨g, 3, none⟩ v3).setCell ⟨g, 4, none⟩ v4).setCell ⟨g, 5, none⟩ v5).setCell ⟨g, 6, none⟩ v6).cell? ⟨g, 5, none⟩ = some v5 ∧ (((((((W.setCell ⟨g, 0, none⟩ v0).setCell ⟨g, 1, none⟩ v1).setCell ⟨g, 2, none⟩ v2).setCell ⟨g, 3, none⟩ v3).setCell ⟨g, 4, none⟩ v4).setCell ⟨g, 5, none⟩ v5).setCell ⟨g, 6, none⟩ v6).cell? ⟨g, 6, none⟩ = some v6 := by
  obtain ⟨⟨k0, k1, k2, k3, k4, k5, k6⟩, _⟩ := h
  refine ⟨?_, ?_, ?_, ?_, ?_, ?_, ?_⟩
  · rw [World.cell?_setCell_other _ _ _ _ (fun e => by cases e)]
    rw [World.cell?_setCell_other _ _ _ _ (fun e => by cases e)]
    rw [World.cell?_setCell_other _ _ _ _ (fun e => by cases e)]
    rw [World.cell?_setCell_other _ _ _ _ (fun e => by cases e)]
    rw [World.cell?_setCell_other _ _ _ _ (fun e => by cases e)]
    rw [World.cell?_setCell_other _ _ _ _ (fun e => by cases e)]
    refine World.cell?_setCell_same _ _ _ (u := .int .i64 0) ?_
    exact k0
  · rw [World.cell?_setCell_other _ _ _ _ (fun e => by cases e)]
    rw [World.cell?_setCell_other _ _ _ _ (fun e => by cases e)]
    rw [World.cell?_setCell_other _ _ _ _ (fun e => by cases e)]
    rw [World.cell?_setCell_other _ _ _ _ (fun e => by cases e)]
    rw [World.cell?_setCell_other _ _ _ _ (fun e => by cases e)]
    refine World.cell?_setCell_same _ _ _ (u := .int .i64 0) ?_
    rw [World.cell?_setCell_other _ _ _ _ (fun e => by cases e)]
    exact k1
  · rw [World.cell?_setCell_other _ _ _ _ (fun e => by cases e)]
    rw [World.cell?_setCell_other _ _ _ _ (fun e => by cases e)]
    rw [World.cell?_setCell_other _ _ _ _ (fun e => by cases e)]
    rw [World.cell?_setCell_other _ _ _ _ (fun e => by cases e)]
    refine World.cell?_setCell_same _ _ _ (u := .int .i64 0) ?_
    rw [World.cell?_setCell_other _ _ _ _ (fun e => by cases e)]
    rw [World.cell?_setCell_other _ _ _ _ (fun e => by cases e)]
    exact k2
  · rw [World.cell?_setCell_other _ _ _ _ (fun e => by cases e)]
    rw [World.cell?_setCell_other _ _ _ _ (fun e => by cases e)]
    rw [World.cell?_setCell_other _ _ _ _ (fun e => by cases e)]
    refine World.cell?_setCell_same _ _ _ (u := .slice none 0 0) ?_
    rw [World.cell?_setCell_other _ _ _ _ (fun e => by cases e)]
    rw [World.cell?_setCell_other _ _ _ _ (fun e => by cases e)]
    rw [World.cell?_setCell_other _ _ _ _ (fun e => by cases e)]
    exact k3
  · rw [World.cell?_setCell_other _ _ _ _ (fun e => by cases e)]
    rw [World.cell?_setCell_other _ _ _ _ (fun e => by cases e)]
    refine World.cell?_setCell_same _ _ _ (u := .slice none 0 0) ?_
    rw [World.cell?_setCell_other _ _ _ _ (fun e => by cases e)]
    rw [World.cell?_setCell_other _ _ _ _ (fun e => by cases e)]
    rw [World.cell?_setCell_other _ _ _ _ (fun e => by cases e)]
    rw [World.cell?_setCell_other _ _ _ _ (fun e => by cases e)]
    exact k4
  · rw [World.cell?_setCell_other _ _ _ _ (fun e => by cases e)]
    refine World.cell?_setCell_same _ _ _ (u := .slice none 0 0) ?_
    rw [World.cell?_setCell_other _ _ _ _ (fun e => by cases e)]
    rw [World.cell?_setCell_other _ _ _ _ (fun e => by cases e)]
    rw [World.cell?_setCell_other _ _ _ _ (fun e => by cases e)]
    rw [World.cell?_setCell_other _ _ _ _ (fun e => by cases e)]
    rw [World.cell?_setCell_other _ _ _ _ (fun e => by cases e)]
    exact k5
  · refine World.cell?_setCell_same _ _ _ (u := .slice none 0 0) ?_
    rw [World.cell?_setCell_other _ _ _ _ (fun e => by cases e)]
    rw [World.cell?_setCell_other _ _ _ _ (fun e => by cases e)]
    rw [World.cell?_setCell_other _ _ _ _ (fun e => by cases e)]
    rw [World.cell?_setCell_other _ _ _ _ (fun e => by cases e)]
    rw [World.cell?_setCell_other _ _ _ _ (fun e => by cases e)]
    rw [World.cell?_setCell_other _ _ _ _ (fun e => by cases e)]
    exact k6

set_option maxHeartbeats 1000000 in
theorem eqC (p q : Option Addr) (cp cq : Nat) (w : World) : Calls Try.prog 16 #[.slice p 0 cp, .slice q 0 cq] w fun e w' => e = .returned (.bool true) ∧ Below w.heap.size w w' := by
  go_enter Try.func16, Try.ntmps16
  go_wp2
  refine wp_loop_rounds 1 ?_
  rw [rounds_succ]
  go_wp2
  go_ret
  exact ⟨rfl, Below.refl _ _⟩

set_option maxHeartbeats 1000000 in
theorem eqE (p q : Option Addr) (cp cq : Nat) (w : World) : Calls Try.prog 17 #[.slice p 0 cp, .slice q 0 cq] w fun e w' => e = .returned (.bool true) ∧ Below w.heap.size w w' := by
  go_enter Try.func17, Try.ntmps17
  go_wp2
  refine wp_loop_rounds 1 ?_
  rw [rounds_succ]
  go_wp2
  go_ret
  exact ⟨rfl, Below.refl _ _⟩

set_option maxHeartbeats 1000000 in
theorem eqS (p q : Option Addr) (cp cq : Nat) (w : World) : Calls Try.prog 28 #[.slice p 0 cp, .slice q 0 cq] w fun e w' => e = .returned (.bool true) ∧ Below w.heap.size w w' := by
  go_enter Try.func28, Try.ntmps28
  go_wp2
  refine wp_loop_rounds 1 ?_
  rw [rounds_succ]
  go_wp2
  go_ret
  exact ⟨rfl, Below.refl _ _⟩

set_option maxHeartbeats 1000000 in
theorem mC (p : Option Addr) (cp : Nat) (w : World) : Calls Try.prog 19 #[.slice p 0 cp, .int .i64 1] w fun e w' => e = .returned (.int .i64 1) ∧ Below w.heap.size w w' := by
  go_enter Try.func19, Try.ntmps19
  go_wp2
  refine wp_loop_rounds 1 ?_
  rw [rounds_succ]
  go_wp2
  go_ret
  exact ⟨rfl, Below.refl _ _⟩

set_option maxHeartbeats 1000000 in
theorem mE (p : Option Addr) (cp : Nat) (w : World) : Calls Try.prog 20 #[.slice p 0 cp, .int .i64 1] w fun e w' => e = .returned (.int .i64 1) ∧ Below w.heap.size w w' := by
  go_enter Try.func20, Try.ntmps20
  go_wp2
  refine wp_loop_rounds 1 ?_
  rw [rounds_succ]
  go_wp2
  go_ret
  exact ⟨rfl, Below.refl _ _⟩

set_option maxHeartbeats 1000000 in
theorem mS (p : Option Addr) (cp : Nat) (w : World) : Calls Try.prog 31 #[.slice p 0 cp, .int .i64 1] w fun e w' => e = .returned (.int .i64 1) ∧ Below w.heap.size w w' := by
  go_enter Try.func31, Try.ntmps31
  go_wp2
  refine wp_loop_rounds 1 ?_
  rw [rounds_succ]
  go_wp2
  go_ret
  exact ⟨rfl, Below.refl _ _⟩

set_option maxHeartbeats 1000000 in
theorem hC (p : Option Addr) (cp : Nat) (w : World) : Calls Try.prog 22 #[.slice p 0 cp, .int .i64 1] w fun e w' => e = .returned (.int .i64 1) ∧ Below w.heap.size w w' := by
  go_enter Try.func22, Try.ntmps22
  go_wp2
  refine wp_loop_rounds 1 ?_
  rw [rounds_succ]
  go_wp2
  go_ret
  exact ⟨rfl, Below.refl _ _⟩

set_option maxHeartbeats 1000000 in
theorem hE (p : Option Addr) (cp : Nat) (w : World) : Calls Try.prog 23 #[.slice p 0 cp, .int .i64 1] w fun e w' => e = .returned (.int .i64 1) ∧ Below w.heap.size w w' := by
  go_enter Try.func23, Try.ntmps23
  go_wp2
  refine wp_loop_rounds 1 ?_
  rw [rounds_succ]
  go_wp2
  go_ret
  exact ⟨rfl, Below.refl _ _⟩

set_option maxHeartbeats 1000000 in
theorem hS (p : Option Addr) (cp : Nat) (w : World) : Calls Try.prog 33 #[.slice p 0 cp, .int .i64 1] w fun e w' => e = .returned (.int .i64 1) ∧ Below w.heap.size w w' := by
  go_enter Try.func33, Try.ntmps33
  go_wp2
  refine wp_loop_rounds 1 ?_
  rw [rounds_succ]
  go_wp2
  go_ret
  exact ⟨rfl, Below.refl _ _⟩

set_option maxHeartbeats 1000000 in
theorem eqD (p0 p1 q0 q1 : Option Addr) (c0 c1 d0 d1 : Nat) (w : World) : Calls Try.prog 18 #[.agg #[.slice p0 0 c0, .slice p1 0 c1], .agg #[.slice q0 0 d0, .slice q1 0 d1]] w fun e w' => e = .returned (.bool true) ∧ Below w.heap.size w w' := by
  go_enter Try.func18, Try.ntmps18
  go_wp2_with fail
  refine (eqS _ _ _ _ _).mono ?_
  rintro e w1 ⟨rfl, hb⟩
  have HB1 : Hid (Below w.heap.size w w1) := (((Below.refl _ _).alloc (Nat.le_refl _) _).alloc (by simp) _).trans (hb.mono (((Below.refl _ _).alloc (Nat.le_refl _) _).alloc (by simp) _).size)
  have HS1 : Hid (w.heap.size + 1 ≤ w1.heap.size) := by have := hb.size; simp at this; show _ ≤ _; omega
  have x1_0 : w1.cell? ⟨w.heap.size, 1, none⟩ = some (.slice p1 0 c1) := cell_next hb (by first | assumption | (go_simp; done)) (by first | (simp; done) | (simp; omega) | (have := HS0.out; omega))
  have x1_1 : w1.cell? ⟨w.heap.size + 1, 1, none⟩ = some (.slice q1 0 d1) := cell_next hb (by first | assumption | (go_simp; done)) (by first | (simp; done) | (simp; omega) | (have := HS0.out; omega))
  clear hb
  go_wp2_with fail
  refine (eqS _ _ _ _ _).mono ?_
  rintro e w2 ⟨rfl, hb⟩
  have HB2 : Hid (Below w.heap.size w w2) := HB1.out.trans (hb.mono HB1.out.size)
  have HS2 : Hid (w.heap.size + 1 ≤ w2.heap.size) := Nat.le_trans HS1.out hb.size
  clear hb x1_0 x1_1
  go_wp2
  go_ret
  exact ⟨rfl, HB2.out⟩

set_option maxHeartbeats 1000000 in
theorem mD (p0 p1 : Option Addr) (c0 c1 : Nat) (w : World) : Calls Try.prog 21 #[.agg #[.slice p0 0 c0, .slice p1 0 c1], .int .i64 1] w fun e w' => e = .returned (.int .i64 1) ∧ Below w.heap.size w w' := by
  go_enter Try.func21, Try.ntmps21
  go_wp2_with fail
  refine (mS _ _ _).mono ?_
  rintro e w1 ⟨rfl, hb⟩
  have HB1 : Hid (Below w.heap.size w w1) := ((Below.refl _ _).alloc (Nat.le_refl _) _).trans (hb.mono ((Below.refl _ _).alloc (Nat.le_refl _) _).size)
  have HS1 : Hid (w.heap.size + 1 ≤ w1.heap.size) := by have := hb.size; simp at this; show _ ≤ _; omega
  have x1_0 : w1.cell? ⟨w.heap.size, 1, none⟩ = some (.slice p1 0 c1) := cell_next hb (by first | assumption | (go_simp; done)) (by first | (simp; done) | (simp; omega) | (have := HS0.out; omega))
  clear hb
  go_wp2_with fail
  refine (mS _ _ _).mono ?_
  rintro e w2 ⟨rfl, hb⟩
  have HB2 : Hid (Below w.heap.size w w2) := HB1.out.trans (hb.mono HB1.out.size)
  have HS2 : Hid (w.heap.size + 1 ≤ w2.heap.size) := Nat.le_trans HS1.out hb.size
  clear hb x1_0
  go_wp2
  go_ret
  exact ⟨rfl, HB2.out⟩

set_option maxHeartbeats 1000000 in
theorem hD (p0 p1 : Option Addr) (c0 c1 : Nat) (w : World) : Calls Try.prog 24 #[.agg #[.slice p0 0 c0, .slice p1 0 c1], .int .i64 1] w fun e w' => e = .returned (.int .i64 1) ∧ Below w.heap.size w w' := by
  go_enter Try.func24, Try.ntmps24
  go_wp2_with fail
  refine (hS _ _ _).mono ?_
  rintro e w1 ⟨rfl, hb⟩
  have HB1 : Hid (Below w.heap.size w w1) := ((Below.refl _ _).alloc (Nat.le_refl _) _).trans (hb.mono ((Below.refl _ _).alloc (Nat.le_refl _) _).size)
  have HS1 : Hid (w.heap.size + 1 ≤ w1.heap.size) := by have := hb.size; simp at this; show _ ≤ _; omega
  have x1_0 : w1.cell? ⟨w.heap.size, 1, none⟩ = some (.slice p1 0 c1) := cell_next hb (by first | assumption | (go_simp; done)) (by first | (simp; done) | (simp; omega) | (have := HS0.out; omega))
  clear hb
  go_wp2_with fail
  refine (hS _ _ _).mono ?_
  rintro e w2 ⟨rfl, hb⟩
  have HB2 : Hid (Below w.heap.size w w2) := HB1.out.trans (hb.mono HB1.out.size)
  have HS2 : Hid (w.heap.size + 1 ≤ w2.heap.size) := Nat.le_trans HS1.out hb.size
  clear hb x1_0
  go_wp2
  go_ret
  exact ⟨rfl, HB2.out⟩

set_option maxHeartbeats 1000000 in
theorem eqN (a : Int) (p0 p1 p2 p3 q0 q1 q2 q3 : Option Addr) (c0 c1 c2 c3 d0 d1 d2 d3 : Nat) (w : World) : Calls Try.prog 7 #[.agg #[.int .i64 a, .int .i64 0, .int .i64 0, .slice p0 0 c0, .slice p1 0 c1, .slice p2 0 c2, .slice p3 0 c3], .agg #[.int .i64 a, .int .i64 0, .int .i64 0, .slice q0 0 d0, .slice q1 0 d1, .slice q2 0 d2, .slice q3 0 d3]] w fun e w' => e = .returned (.bool true) ∧ Below w.heap.size w w' := by
  go_enter Try.func7, Try.ntmps7
  go_wp2_with fail
  refine (eqC _ _ _ _ _).mono ?_
  rintro e w1 ⟨rfl, hb⟩
  have HB1 : Hid (Below w.heap.size w w1) := (((Below.refl _ _).alloc (Nat.le_refl _) _).alloc (by simp) _).trans (hb.mono (((Below.refl _ _).alloc (Nat.le_refl _) _).alloc (by simp) _).size)
  have HS1 : Hid (w.heap.size + 2 ≤ w1.heap.size) := by have := hb.size; simp at this; show _ ≤ _; omega
  have x1_0 : w1.cell? ⟨w.heap.size, 4, none⟩ = some (.slice p1 0 c1) := cell_next hb (by first | assumption | (go_simp; done)) (by first | (simp; done) | (simp; omega) | (have := HS0.out; omega))
  have x1_1 : w1.cell? ⟨w.heap.size, 5, none⟩ = some (.slice p2 0 c2) := cell_next hb (by first | assumption | (go_simp; done)) (by first | (simp; done) | (simp; omega) | (have := HS0.out; omega))
  have x1_2 : w1.cell? ⟨w.heap.size, 6, none⟩ = some (.slice p3 0 c3) := cell_next hb (by first | assumption | (go_simp; done)) (by first | (simp; done) | (simp; omega) | (have := HS0.out; omega))
  have x1_3 : w1.cell? ⟨w.heap.size + 1, 4, none⟩ = some (.slice q1 0 d1) := cell_next hb (by first | assumption | (go_simp; done)) (by first | (simp; done) | (simp; omega) | (have := HS0.out; omega))
  have x1_4 : w1.cell? ⟨w.heap.size + 1, 5, none⟩ = some (.slice q2 0 d2) := cell_next hb (by first | assumption | (go_simp; done)) (by first | (simp; done) | (simp; omega) | (have := HS0.out; omega))
  have x1_5 : w1.cell? ⟨w.heap.size + 1, 6, none⟩ = some (.slice q3 0 d3) := cell_next hb (by first | assumption | (go_simp; done)) (by first | (simp; done) | (simp; omega) | (have := HS0.out; omega))
  clear hb
  go_wp2_with fail
  refine (eqE _ _ _ _ _).mono ?_
  rintro e w2 ⟨rfl, hb⟩
  have HB2 : Hid (Below w.heap.size w w2) := HB1.out.trans (hb.mono HB1.out.size)
  have HS2 : Hid (w.heap.size + 2 ≤ w2.heap.size) := Nat.le_trans HS1.out hb.size
  have x2_0 : w2.cell? ⟨w.heap.size, 5, none⟩ = some (.slice p2 0 c2) := cell_next hb (by first | assumption | (go_simp; done)) (by first | (simp; done) | (simp; omega) | (have := HS1.out; omega))
  have x2_1 : w2.cell? ⟨w.heap.size, 6, none⟩ = some (.slice p3 0 c3) := cell_next hb (by first | assumption | (go_simp; done)) (by first | (simp; done) | (simp; omega) | (have := HS1.out; omega))
  have x2_2 : w2.cell? ⟨w.heap.size + 1, 5, none⟩ = some (.slice q2 0 d2) := cell_next hb (by first | assumption | (go_simp; done)) (by first | (simp; done) | (simp; omega) | (have := HS1.out; omega))
  have x2_3 : w2.cell? ⟨w.heap.size + 1, 6, none⟩ = some (.slice q3 0 d3) := cell_next hb (by first | assumption | (go_simp; done)) (by first | (simp; done) | (simp; omega) | (have := HS1.out; omega))
  clear hb x1_0 x1_1 x1_2 x1_3 x1_4 x1_5
  go_wp2_with fail
  refine (eqD _ _ _ _ _ _ _ _ _).mono ?_
  rintro e w3 ⟨rfl, hb⟩
  have HB3 : Hid (Below w.heap.size w w3) := HB2.out.trans (hb.mono HB2.out.size)
  have HS3 : Hid (w.heap.size + 2 ≤ w3.heap.size) := Nat.le_trans HS2.out hb.size
  clear hb x2_0 x2_1 x2_2 x2_3
  go_wp2
  go_ret
  exact ⟨rfl, HB3.out⟩

set_option maxHeartbeats 1000000 in
theorem mN (a : Int) (p0 p1 p2 p3 : Option Addr) (c0 c1 c2 c3 : Nat) (w : World) : Calls Try.prog 8 #[.agg #[.int .i64 a, .int .i64 0, .int .i64 0, .slice p0 0 c0, .slice p1 0 c1, .slice p2 0 c2, .slice p3 0 c3], .int .i64 1] w fun e w' => e = .returned (.int .i64 1) ∧ Below w.heap.size w w' := by
  go_enter Try.func8, Try.ntmps8
  go_wp2_with fail
  refine (mC _ _ _).mono ?_
  rintro e w1 ⟨rfl, hb⟩
  have HB1 : Hid (Below w.heap.size w w1) := ((Below.refl _ _).alloc (Nat.le_refl _) _).trans (hb.mono ((Below.refl _ _).alloc (Nat.le_refl _) _).size)
  have HS1 : Hid (w.heap.size + 1 ≤ w1.heap.size) := by have := hb.size; simp at this; show _ ≤ _; omega
  have x1_0 : w1.cell? ⟨w.heap.size, 4, none⟩ = some (.slice p1 0 c1) := cell_next hb (by first | assumption | (go_simp; done)) (by first | (simp; done) | (simp; omega) | (have := HS0.out; omega))
  have x1_1 : w1.cell? ⟨w.heap.size, 5, none⟩ = some (.slice p2 0 c2) := cell_next hb (by first | assumption | (go_simp; done)) (by first | (simp; done) | (simp; omega) | (have := HS0.out; omega))
  have x1_2 : w1.cell? ⟨w.heap.size, 6, none⟩ = some (.slice p3 0 c3) := cell_next hb (by first | assumption | (go_simp; done)) (by first | (simp; done) | (simp; omega) | (have := HS0.out; omega))
  clear hb
  go_wp2_with fail
  refine (mE _ _ _).mono ?_
  rintro e w2 ⟨rfl, hb⟩
  have HB2 : Hid (Below w.heap.size w w2) := HB1.out.trans (hb.mono HB1.out.size)
  have HS2 : Hid (w.heap.size + 1 ≤ w2.heap.size) := Nat.le_trans HS1.out hb.size
  have x2_0 : w2.cell? ⟨w.heap.size, 5, none⟩ = some (.slice p2 0 c2) := cell_next hb (by first | assumption | (go_simp; done)) (by first | (simp; done) | (simp; omega) | (have := HS1.out; omega))
  have x2_1 : w2.cell? ⟨w.heap.size, 6, none⟩ = some (.slice p3 0 c3) := cell_next hb (by first | assumption | (go_simp; done)) (by first | (simp; done) | (simp; omega) | (have := HS1.out; omega))
  clear hb x1_0 x1_1 x1_2
  go_wp2_with fail
  refine (mD _ _ _ _ _).mono ?_
  rintro e w3 ⟨rfl, hb⟩
  have HB3 : Hid (Below w.heap.size w w3) := HB2.out.trans (hb.mono HB2.out.size)
  have HS3 : Hid (w.heap.size + 1 ≤ w3.heap.size) := Nat.le_trans HS2.out hb.size
  clear hb x2_0 x2_1
  go_wp2
  go_ret
  exact ⟨rfl, HB3.out⟩

set_option maxHeartbeats 1000000 in
theorem hN (a : Int) (p0 p1 p2 p3 : Option Addr) (c0 c1 c2 c3 : Nat) (w : World) : Calls Try.prog 9 #[.agg #[.int .i64 a, .int .i64 0, .int .i64 0, .slice p0 0 c0, .slice p1 0 c1, .slice p2 0 c2, .slice p3 0 c3], .int .i64 1] w fun e w' => e = .returned (.int .i64 1) ∧ Below w.heap.size w w' := by
  go_enter Try.func9, Try.ntmps9
  go_wp2_with fail
  refine (hC _ _ _).mono ?_
  rintro e w1 ⟨rfl, hb⟩
  have HB1 : Hid (Below w.heap.size w w1) := ((Below.refl _ _).alloc (Nat.le_refl _) _).trans (hb.mono ((Below.refl _ _).alloc (Nat.le_refl _) _).size)
  have HS1 : Hid (w.heap.size + 1 ≤ w1.heap.size) := by have := hb.size; simp at this; show _ ≤ _; omega
  have x1_0 : w1.cell? ⟨w.heap.size, 4, none⟩ = some (.slice p1 0 c1) := cell_next hb (by first | assumption | (go_simp; done)) (by first | (simp; done) | (simp; omega) | (have := HS0.out; omega))
  have x1_1 : w1.cell? ⟨w.heap.size, 5, none⟩ = some (.slice p2 0 c2) := cell_next hb (by first | assumption | (go_simp; done)) (by first | (simp; done) | (simp; omega) | (have := HS0.out; omega))
  have x1_2 : w1.cell? ⟨w.heap.size, 6, none⟩ = some (.slice p3 0 c3) := cell_next hb (by first | assumption | (go_simp; done)) (by first | (simp; done) | (simp; omega) | (have := HS0.out; omega))
  clear hb
  go_wp2_with fail
  refine (hE _ _ _).mono ?_
  rintro e w2 ⟨rfl, hb⟩
  have HB2 : Hid (Below w.heap.size w w2) := HB1.out.trans (hb.mono HB1.out.size)
  have HS2 : Hid (w.heap.size + 1 ≤ w2.heap.size) := Nat.le_trans HS1.out hb.size
  have x2_0 : w2.cell? ⟨w.heap.size, 5, none⟩ = some (.slice p2 0 c2) := cell_next hb (by first | assumption | (go_simp; done)) (by first | (simp; done) | (simp; omega) | (have := HS1.out; omega))
  have x2_1 : w2.cell? ⟨w.heap.size, 6, none⟩ = some (.slice p3 0 c3) := cell_next hb (by first | assumption | (go_simp; done)) (by first | (simp; done) | (simp; omega) | (have := HS1.out; omega))
  clear hb x1_0 x1_1 x1_2
  go_wp2_with fail
  refine (hD _ _ _ _ _).mono ?_
  rintro e w3 ⟨rfl, hb⟩
  have HB3 : Hid (Below w.heap.size w w3) := HB2.out.trans (hb.mono HB2.out.size)
  have HS3 : Hid (w.heap.size + 1 ≤ w3.heap.size) := Nat.le_trans HS2.out hb.size
  clear hb x2_0 x2_1
  go_wp2
  go_ret
  exact ⟨rfl, HB3.out⟩

set_option maxHeartbeats 1000000 in
theorem inS (a : Int) (w : World) : Calls Try.prog 25 #[.int .i64 a, .int .i64 0, .int .i64 2] w fun e w' => e = .returned (.bool (decide (0 ≤ a ∧ a < 3))) ∧ Below w.heap.size w w' := by
  by_cases h0 : 0 ≤ a
  · by_cases h1 : a ≤ 2
    · have HD : Hid (decide (0 ≤ a ∧ a < 3) = true) := decide_eq_true ⟨h0, by omega⟩
      go_enter Try.func25, Try.ntmps25
      go_wp2
      go_ret
      exact ⟨ret_bool (by first | exact HD.out.symm | (simp; done) | (simp; omega)), Below.refl _ _⟩
    · have HD : Hid (decide (0 ≤ a ∧ a < 3) = false) := decide_eq_false (by omega)
      go_enter Try.func25, Try.ntmps25
      go_wp2
      go_ret
      exact ⟨ret_bool (by first | exact HD.out.symm | (simp; done) | (simp; omega)), Below.refl _ _⟩
  · have HD : Hid (decide (0 ≤ a ∧ a < 3) = false) := decide_eq_false (by omega)
    go_enter Try.func25, Try.ntmps25
    go_wp2
    go_ret
    exact ⟨ret_bool (by first | exact HD.out.symm | (simp; done) | (simp; omega)), Below.refl _ _⟩

theorem nodeS (a : Int) (w : World) : Calls Try.prog 13 #[.int .i64 a] w fun e w' => e = .returned (.bool (decide (0 ≤ a ∧ a < 3))) ∧ Below w.heap.size w w' := by
  have C : Hid (∀ W, Calls Try.prog 25 #[.int .i64 a, .int .i64 0, .int .i64 2] W fun e w' => e = .returned (.bool (decide (0 ≤ a ∧ a < 3))) ∧ Below W.heap.size W w') := inS a
  obtain ⟨r, hr⟩ : ∃ r, r = decide (0 ≤ a ∧ a < 3) := ⟨_, rfl⟩
  rw [← hr] at C ⊢
  clear hr
  go_enter Try.func13, Try.ntmps13
  go_wp2_with fail
  refine Calls.mono (C.out _) ?_
  rintro e w1 ⟨rfl, hb⟩
  have HB : Hid (Below w.heap.size w w1) := hb
  clear hb
  go_wp2
  go_ret
  exact ⟨rfl, HB.out⟩

set_option maxHeartbeats 1000000 in
theorem nodeI (a : Int) (w : World) : Calls Try.prog 15 #[.int .i64 a] w fun e w' => e = .returned (.bool (decide (0 ≤ a ∧ a < 3))) ∧ Below w.heap.size w w' := by
  by_cases h0 : 0 ≤ a
  · by_cases h1 : a < 3
    · have HD : Hid (decide (0 ≤ a ∧ a < 3) = true) := decide_eq_true ⟨h0, by omega⟩
      go_enter Try.func15, Try.ntmps15
      go_wp2
      go_ret
      exact ⟨ret_bool (by first | exact HD.out.symm | (simp; done) | (simp; omega)), Below.refl _ _⟩
    · have HD : Hid (decide (0 ≤ a ∧ a < 3) = false) := decide_eq_false (by omega)
      go_enter Try.func15, Try.ntmps15
      go_wp2
      go_ret
      exact ⟨ret_bool (by first | exact HD.out.symm | (simp; done) | (simp; omega)), Below.refl _ _⟩
  · have HD : Hid (decide (0 ≤ a ∧ a < 3) = false) := decide_eq_false (by omega)
    go_enter Try.func15, Try.ntmps15
    go_wp2
    go_ret
    exact ⟨ret_bool (by first | exact HD.out.symm | (simp; done) | (simp; omega)), Below.refl _ _⟩

def NewP (a : Int) (w : World) (e : Ending) (w' : World) : Prop := ∃ p0 p1 p2 p3 c0 c1 c2 c3, e = .returned (.agg #[.int .i64 a, .int .i64 0, .int .i64 0, .slice p0 0 c0, .slice p1 0 c1, .slice p2 0 c2, .slice p3 0 c3]) ∧ Below w.heap.size w w'
def NewQ (a c : Int) (w : World) (e : Ending) (w' : World) : Prop := ∃ p0 p1 p2 p3 c0 c1 c2 c3, e = .returned (.tuple #[.agg #[.int .i64 a, .int .i64 0, .int .i64 0, .slice p0 0 c0, .slice p1 0 c1, .slice p2 0 c2, .slice p3 0 c3], .int .i64 c]) ∧ Below w.heap.size w w'
set_option maxHeartbeats 1000000 in
theorem newS (a : Int) (w : World) : Calls Try.prog 14 #[.int .i64 a] w (NewP a w) := by
  go_enter Try.func14, Try.ntmps14
  go_wp2
  refine bodyPost_ret (v := .agg #[.int .i64 a, .int .i64 0, .int .i64 0, .slice (some ⟨w.heap.size + 1, 0, none⟩) 0 0, .slice (some ⟨w.heap.size + 2, 0, none⟩) 0 0, .slice (some ⟨w.heap.size + 3, 0, none⟩) 0 0, .slice (some ⟨w.heap.size + 4, 0, none⟩) 0 0]) (by simp [results, Try.results14, go_sem, *]) rfl ?_
  refine ⟨_, _, _, _, _, _, _, _, rfl, ?_⟩
  repeat (first | exact Below.refl _ _ | refine Below.drew ?_ | refine below_drewN ?_ _ | refine Below.alloc ?_ (by first | (simp; done) | (simp; omega)) _ | refine Below.setCell ?_ (by first | (simp; done) | (simp; omega)) _)
end Go.Proofs.Ytfgbfjnhbklblaa

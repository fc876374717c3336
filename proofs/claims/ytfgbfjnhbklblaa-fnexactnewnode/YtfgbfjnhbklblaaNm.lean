/- New nodes: NewNode of both sides, and its law. -/
import Derived.Test.YtfgbfjnhbklblaaRows
import Derived.WalkKit
import Derived.WalkSpells
import Derived.WalkLawsBesides
import Derived.Deep.QuietTactic
import Derived.BigQuiet
import Derived.Deep.RegionHeld3
import Derived.Test.YtfgbfjnhbklblaaNn
namespace Go.Proofs.Ytfgbfjnhbklblaa
open Go.RowKit
set_option linter.unusedSimpArgs false
set_option linter.unusedVariables false
def Ce7 (W : World) (g : Nat) (v0 v1 v2 v3 v4 v5 v6 : Value) : Prop := W.cell? ⟨g, 0, none⟩ = some v0 ∧ W.cell? ⟨g, 1, none⟩ = some v1 ∧ W.cell? ⟨g, 2, none⟩ = some v2 ∧ W.cell? ⟨g, 3, none⟩ = some v3 ∧ W.cell? ⟨g, 4, none⟩ = some v4 ∧ W.cell? ⟨g, 5, none⟩ = some v5 ∧ W.cell? ⟨g, 6, none⟩ = some v6
theorem ce7_next {W W' : World} {g : Nat} {v0 v1 v2 v3 v4 v5 v6 : Value} (h : Hid (Ce7 W g v0 v1 v2 v3 v4 v5 v6)) (hl : Hid (g < W.heap.size)) (hb : Below W.heap.size W W') : Hid (Ce7 W' g v0 v1 v2 v3 v4 v5 v6) := by
  obtain ⟨h0, h1, h2, h3, h4, h5, h6⟩ := h.out
  exact ⟨cell_next hb h0 hl.out, cell_next hb h1 hl.out, cell_next hb h2 hl.out, cell_next hb h3 hl.out, cell_next hb h4 hl.out, cell_next hb h5 hl.out, cell_next hb h6 hl.out⟩
theorem ce7_new {W : World} {t : TypeId} {v0 v1 v2 v3 v4 v5 v6 : Value} : Hid (Ce7 (W.alloc (.cells #[v0, v1, v2, v3, v4, v5, v6] t)) W.heap.size v0 v1 v2 v3 v4 v5 v6) := by
  refine ⟨?_, ?_, ?_, ?_, ?_, ?_, ?_⟩ <;> go_simp
theorem lt_next {W W' : World} {g n : Nat} (hl : Hid (g < W.heap.size)) (hb : Below n W W') : Hid (g < W'.heap.size) := Nat.lt_of_lt_of_le hl.out hb.size
theorem bel_alloc (W : World) (o : Obj) : Below W.heap.size W (W.alloc o) := (Below.refl _ _).alloc (Nat.le_refl _) _
theorem lt_new {W : World} {o : Obj} : Hid (W.heap.size < (W.alloc o).heap.size) := by show _ < _; simp
theorem fr7_all {w W : World} {g : Nat} (v0 v1 v2 v3 v4 v5 v6 : Value) (h : Fr7 W g) (hB : Below w.heap.size w W) (hg : w.heap.size ≤ g) : ∃ w9, w9 = (((((((W.setCell ⟨g, 0, none⟩ v0).setCell ⟨g, 1, none⟩ v1).setCell ⟨g, 2, none⟩ v2).setCell ⟨g, 3, none⟩ v3).setCell ⟨g, 4, none⟩ v4).setCell ⟨g, 5, none⟩ v5).setCell ⟨g, 6, none⟩ v6) ∧ Ce7 w9 g v0 v1 v2 v3 v4 v5 v6 ∧ Below w.heap.size w w9 :=
  ⟨_, rfl, fr7_set h, bel_set (bel_set (bel_set (bel_set (bel_set (bel_set (bel_set hB hg) hg) hg) hg) hg) hg) hg⟩
theorem bel_next' {w W W' : World} (h : Hid (Below w.heap.size w W)) (hb : Below W.heap.size W W') : Hid (Below w.heap.size w W') := h.out.trans (hb.mono h.out.size)

set_option maxHeartbeats 1000000 in
theorem newNS_ok (a : Int) (h : (0 ≤ a ∧ a < 3)) (w : World) : Calls Try.prog 5 #[.int .i64 a] w (NewQ a 0 w) := by
  have C : Hid (∀ W, Calls Try.prog 13 #[.int .i64 a] W fun e w' => e = .returned (.bool true) ∧ Below W.heap.size W w') := fun W => by
    have h0 := nodeS a W
    rw [decide_eq_true h] at h0
    exact h0
  clear h
  go_enter Try.func5, Try.ntmps5
  go_wp2_with fail
  refine Calls.mono (C.out _) ?_
  rintro e w1 ⟨rfl, hb⟩
  have HB : Hid (Below w.heap.size w w1) := (Below.alloc (Below.refl _ _) (Nat.le_refl _) _).trans (hb.mono (by simp))
  have TH : Hid (Fr7 w1 w.heap.size) := fr7_new hb
  have HL : Hid (w.heap.size < w1.heap.size) := by have := hb.size; simp at this; show _ < _; omega
  clear hb
  go_wp2_with fail
  refine (newS a _).mono ?_
  rintro e w2 ⟨p0, p1, p2, p3, c0, c1, c2, c3, rfl, hb⟩
  replace HB := bel_next HB hb
  replace TH := fr7_next TH HL hb
  clear hb
  obtain ⟨⟨k0, k1, k2, k3, k4, k5, k6⟩, z0, z1, z2, z3, z4, z5, z6⟩ := TH.out
  go_wp2
  obtain ⟨w9, h9, CC, HB9⟩ := fr7_all (.int .i64 a) (.int .i64 0) (.int .i64 0) (.slice p0 0 c0) (.slice p1 0 c1) (.slice p2 0 c2) (.slice p3 0 c3) TH.out HB.out (Nat.le_refl _)
  rw [← h9]
  clear h9 k0 k1 k2 k3 k4 k5 k6 z0 z1 z2 z3 z4 z5 z6 TH HB
  obtain ⟨h0, h1, h2, h3, h4, h5, h6⟩ := CC
  refine bodyPost_ret (v := .tuple #[.agg #[.int .i64 a, .int .i64 0, .int .i64 0, .slice p0 0 c0, .slice p1 0 c1, .slice p2 0 c2, .slice p3 0 c3], .int .i64 0]) (by simp [results, Try.results5, go_sem, *]) rfl ?_
  exact ⟨_, _, _, _, _, _, _, _, rfl, HB9⟩

set_option maxHeartbeats 1000000 in
theorem newNS_no (a : Int) (h : ¬ (0 ≤ a ∧ a < 3)) (w : World) : Calls Try.prog 5 #[.int .i64 a] w (NewQ 0 4 w) := by
  have C : Hid (∀ W, Calls Try.prog 13 #[.int .i64 a] W fun e w' => e = .returned (.bool false) ∧ Below W.heap.size W w') := fun W => by
    have h0 := nodeS a W
    rw [decide_eq_false h] at h0
    exact h0
  clear h
  go_enter Try.func5, Try.ntmps5
  go_wp2_with fail
  refine Calls.mono (C.out _) ?_
  rintro e w1 ⟨rfl, hb⟩
  have HB : Hid (Below w.heap.size w w1) := (Below.alloc (Below.refl _ _) (Nat.le_refl _) _).trans (hb.mono (by simp))
  have TH : Hid (Fr7 w1 w.heap.size) := fr7_new hb
  have HL : Hid (w.heap.size < w1.heap.size) := by have := hb.size; simp at this; show _ < _; omega
  clear hb
  obtain ⟨⟨k0, k1, k2, k3, k4, k5, k6⟩, z0, z1, z2, z3, z4, z5, z6⟩ := TH.out
  go_wp2
  obtain ⟨w9, h9, CC, HB9⟩ := fr7_all (.int .i64 0) (.int .i64 0) (.int .i64 0) (.slice none 0 0) (.slice none 0 0) (.slice none 0 0) (.slice none 0 0) TH.out HB.out (Nat.le_refl _)
  rw [← h9]
  clear h9 k0 k1 k2 k3 k4 k5 k6 z0 z1 z2 z3 z4 z5 z6 TH HB
  obtain ⟨h0, h1, h2, h3, h4, h5, h6⟩ := CC
  refine bodyPost_ret (v := .tuple #[.agg #[.int .i64 0, .int .i64 0, .int .i64 0, .slice none 0 0, .slice none 0 0, .slice none 0 0, .slice none 0 0], .int .i64 4]) (by simp [results, Try.results5, go_sem, *]) rfl ?_
  exact ⟨_, _, _, _, _, _, _, _, rfl, HB9⟩

set_option maxHeartbeats 1000000 in
theorem newNI_ok (a : Int) (h : (0 ≤ a ∧ a < 3)) (w : World) : Calls Try.prog 6 #[.int .i64 a] w (NewQ a 0 w) := by
  have C : Hid (∀ W, Calls Try.prog 15 #[.int .i64 a] W fun e w' => e = .returned (.bool true) ∧ Below W.heap.size W w') := fun W => by
    have h0 := nodeI a W
    rw [decide_eq_true h] at h0
    exact h0
  clear h
  go_enter Try.func6, Try.ntmps6
  go_wp2_with fail
  refine Calls.mono (C.out _) ?_
  rintro e w1 ⟨rfl, hb⟩
  have HB : Hid (Below w.heap.size w w1) := (Below.alloc (Below.refl _ _) (Nat.le_refl _) _).trans (hb.mono (by simp))
  have TH : Hid (Fr7 w1 w.heap.size) := fr7_new hb
  have HL : Hid (w.heap.size < w1.heap.size) := by have := hb.size; simp at this; show _ < _; omega
  clear hb
  obtain ⟨⟨k0, k1, k2, k3, k4, k5, k6⟩, z0, z1, z2, z3, z4, z5, z6⟩ := TH.out
  go_wp2
  obtain ⟨w9, h9, CC, HB9⟩ := fr7_all (.int .i64 a) (.int .i64 0) (.int .i64 0) (.slice none 0 0) (.slice none 0 0) (.slice none 0 0) (.slice none 0 0) TH.out HB.out (Nat.le_refl _)
  rw [← h9]
  clear h9 k0 k1 k2 k3 k4 k5 k6 z0 z1 z2 z3 z4 z5 z6 TH HB
  obtain ⟨h0, h1, h2, h3, h4, h5, h6⟩ := CC
  refine bodyPost_ret (v := .tuple #[.agg #[.int .i64 a, .int .i64 0, .int .i64 0, .slice none 0 0, .slice none 0 0, .slice none 0 0, .slice none 0 0], .int .i64 0]) (by simp [results, Try.results6, go_sem, *]) rfl ?_
  exact ⟨_, _, _, _, _, _, _, _, rfl, HB9⟩

set_option maxHeartbeats 1000000 in
theorem newNI_no (a : Int) (h : ¬ (0 ≤ a ∧ a < 3)) (w : World) : Calls Try.prog 6 #[.int .i64 a] w (NewQ 0 4 w) := by
  have C : Hid (∀ W, Calls Try.prog 15 #[.int .i64 a] W fun e w' => e = .returned (.bool false) ∧ Below W.heap.size W w') := fun W => by
    have h0 := nodeI a W
    rw [decide_eq_false h] at h0
    exact h0
  clear h
  go_enter Try.func6, Try.ntmps6
  go_wp2_with fail
  refine Calls.mono (C.out _) ?_
  rintro e w1 ⟨rfl, hb⟩
  have HB : Hid (Below w.heap.size w w1) := (Below.alloc (Below.refl _ _) (Nat.le_refl _) _).trans (hb.mono (by simp))
  have TH : Hid (Fr7 w1 w.heap.size) := fr7_new hb
  have HL : Hid (w.heap.size < w1.heap.size) := by have := hb.size; simp at this; show _ < _; omega
  clear hb
  obtain ⟨⟨k0, k1, k2, k3, k4, k5, k6⟩, z0, z1, z2, z3, z4, z5, z6⟩ := TH.out
  go_wp2
  obtain ⟨w9, h9, CC, HB9⟩ := fr7_all (.int .i64 0) (.int .i64 0) (.int .i64 0) (.slice none 0 0) (.slice none 0 0) (.slice none 0 0) (.slice none 0 0) TH.out HB.out (Nat.le_refl _)
  rw [← h9]
  clear h9 k0 k1 k2 k3 k4 k5 k6 z0 z1 z2 z3 z4 z5 z6 TH HB
  obtain ⟨h0, h1, h2, h3, h4, h5, h6⟩ := CC
  refine bodyPost_ret (v := .tuple #[.agg #[.int .i64 0, .int .i64 0, .int .i64 0, .slice none 0 0, .slice none 0 0, .slice none 0 0, .slice none 0 0], .int .i64 4]) (by simp [results, Try.results6, go_sem, *]) rfl ?_
  exact ⟨_, _, _, _, _, _, _, _, rfl, HB9⟩

set_option maxHeartbeats 2000000 in
theorem law_at (a x c : Int) (CS : Hid (∀ W, Calls Try.prog 5 #[.int .i64 a] W (NewQ x c W))) (CI : Hid (∀ W, Calls Try.prog 6 #[.int .i64 a] W (NewQ x c W))) (w : World) :
    Calls Try.prog 3 #[.int .i64 a] w fun e w' => e = .returned (.bool true) ∧ Below w.heap.size w w' := by
  go_enter Try.func3, Try.ntmps3
  go_wp2_with fail
  refine Calls.mono (CS.out _) ?_
  rintro e w1 ⟨p0, p1, p2, p3, c0, c1, c2, c3, rfl, hb⟩
  have HB : Hid (Below w.heap.size w w1) := hb
  clear hb
  go_wp2_with fail
  refine Calls.mono (CI.out _) ?_
  rintro e w2 ⟨q0, q1, q2, q3, d0, d1, d2, d3, rfl, hb⟩
  have BW := ce7_next ce7_new lt_new hb
  have LW := lt_next lt_new hb
  replace HB := bel_next (bel_next HB (bel_alloc _ _)) hb
  clear hb
  have XA : ∀ o, Ce7 (w2.alloc o) w1.heap.size _ _ _ _ _ _ _ := fun o => (ce7_next BW LW (bel_alloc _ o)).out
  have x0 := fun o => (XA o).1
  have x1 := fun o => (XA o).2.1
  have x2 := fun o => (XA o).2.2.1
  have x3 := fun o => (XA o).2.2.2.1
  have x4 := fun o => (XA o).2.2.2.2.1
  have x5 := fun o => (XA o).2.2.2.2.2.1
  have x6 := fun o => (XA o).2.2.2.2.2.2
  clear XA
  go_wp2_with fail
  clear x0 x1 x2 x3 x4 x5 x6
  refine (eqN x q0 q1 q2 q3 p0 p1 p2 p3 d0 d1 d2 d3 c0 c1 c2 c3 _).mono ?_
  rintro e w3 ⟨rfl, hb⟩
  have BG := ce7_next ce7_new lt_new hb
  have LG := lt_next lt_new hb
  replace BW := ce7_next (ce7_next BW LW (bel_alloc _ _)) (lt_next LW (bel_alloc _ _)) hb
  replace LW := lt_next (lt_next LW (bel_alloc _ _)) hb
  replace HB := bel_next (bel_next HB (bel_alloc _ _)) hb
  clear hb
  obtain ⟨g0, g1, g2, g3, g4, g5, g6⟩ := BG.out
  go_wp2_with fail
  clear g0 g1 g2 g3 g4 g5 g6
  refine (mN x q0 q1 q2 q3 d0 d1 d2 d3 _).mono ?_
  rintro e w4 ⟨rfl, hb⟩
  replace BG := ce7_next BG LG hb
  replace LG := lt_next LG hb
  replace BW := ce7_next BW LW hb
  replace LW := lt_next LW hb
  replace HB := bel_next HB hb
  clear hb
  obtain ⟨g0, g1, g2, g3, g4, g5, g6⟩ := BG.out
  go_wp2_with fail
  clear g0 g1 g2 g3 g4 g5 g6
  refine (hN x q0 q1 q2 q3 d0 d1 d2 d3 _).mono ?_
  rintro e w5 ⟨rfl, hb⟩
  replace BG := ce7_next BG LG hb
  replace LG := lt_next LG hb
  replace BW := ce7_next BW LW hb
  replace LW := lt_next LW hb
  replace HB := bel_next HB hb
  clear hb
  go_wp2_with fail
  refine Calls.mono (CI.out _) ?_
  rintro e w6 ⟨r0, r1, r2, r3, e0, e1, e2, e3, rfl, hb⟩
  replace BG := ce7_next BG LG hb
  replace LG := lt_next LG hb
  replace BW := ce7_next BW LW hb
  replace LW := lt_next LW hb
  replace HB := bel_next HB hb
  clear hb
  have XA : ∀ o, Ce7 (w6.alloc o) w1.heap.size _ _ _ _ _ _ _ := fun o => (ce7_next BW LW (bel_alloc _ o)).out
  have x0 := fun o => (XA o).1
  have x1 := fun o => (XA o).2.1
  have x2 := fun o => (XA o).2.2.1
  have x3 := fun o => (XA o).2.2.2.1
  have x4 := fun o => (XA o).2.2.2.2.1
  have x5 := fun o => (XA o).2.2.2.2.2.1
  have x6 := fun o => (XA o).2.2.2.2.2.2
  clear XA
  go_wp2_with fail
  clear x0 x1 x2 x3 x4 x5 x6
  refine (eqN x r0 r1 r2 r3 p0 p1 p2 p3 e0 e1 e2 e3 c0 c1 c2 c3 _).mono ?_
  rintro e w7 ⟨rfl, hb⟩
  replace BG := ce7_next (ce7_next BG LG (bel_alloc _ _)) (lt_next LG (bel_alloc _ _)) hb
  replace LG := lt_next (lt_next LG (bel_alloc _ _)) hb
  replace HB := bel_next (bel_next HB (bel_alloc _ _)) hb
  clear hb BW LW
  obtain ⟨g0, g1, g2, g3, g4, g5, g6⟩ := BG.out
  go_wp2_with fail
  clear g0 g1 g2 g3 g4 g5 g6
  refine (hN x q0 q1 q2 q3 d0 d1 d2 d3 _).mono ?_
  rintro e w8 ⟨rfl, hb⟩
  replace HB := bel_next HB hb
  clear hb BG LG
  go_wp2
  go_ret
  exact ⟨rfl, HB.out⟩
theorem law_newNode (a : Int) (w : World) : Calls Try.prog 3 #[.int .i64 a] w fun e w' => e = .returned (.bool true) ∧ Below w.heap.size w w' := by
  by_cases h : 0 ≤ a ∧ a < 3
  · exact law_at a a 0 (newNS_ok a h) (newNI_ok a h) w
  · exact law_at a 0 4 (newNS_no a h) (newNI_no a h) w
end Go.Proofs.Ytfgbfjnhbklblaa

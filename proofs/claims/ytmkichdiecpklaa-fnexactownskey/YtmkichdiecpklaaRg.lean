/- The ring: all nodes from a key's place on, on both sides. -/
import Derived.Test.YtmkichdiecpklaaRows
import Derived.WalkKit
import Derived.WalkSpells
import Derived.WalkLawsBesides
import Derived.Deep.QuietTactic
import Derived.BigQuiet
import Derived.Deep.RegionHeld3
import Derived.Test.YtmkichdiecpklaaIk
import Derived.Test.YtmkichdiecpklaaBk
import Derived.WalkMore
import Derived.LoopN
namespace Go.Proofs.Ytmkichdiecpklaa
open Go.RowKit
set_option linter.unusedSimpArgs false
set_option linter.unusedVariables false
theorem info_int : (Try.prog.info? 3).map (fun i => (i.zero, i.size, i.bytes)) = some (some (.int .i64 0), 1, 8) := by kernel_rfl

/-- The three nodes from a place on, round. -/
def RingP (p : Nat) (x y z : Int) : Prop := (p ≤ 40 ∧ x = 0 ∧ y = 1 ∧ z = 2) ∨ (40 < p ∧ p ≤ 170 ∧ x = 1 ∧ y = 2 ∧ z = 0) ∨ (170 < p ∧ p ≤ 300 ∧ x = 2 ∧ y = 0 ∧ z = 1) ∨ (300 < p ∧ x = 0 ∧ y = 1 ∧ z = 2)
theorem RingP.is (p : Nat) : ∃ x y z, RingP p x y z := by
  by_cases h1 : p ≤ 40
  · exact ⟨_, _, _, .inl ⟨h1, rfl, rfl, rfl⟩⟩
  by_cases h2 : p ≤ 170
  · exact ⟨_, _, _, .inr (.inl ⟨by omega, h2, rfl, rfl, rfl⟩)⟩
  by_cases h3 : p ≤ 300
  · exact ⟨_, _, _, .inr (.inr (.inl ⟨by omega, h3, rfl, rfl, rfl⟩))⟩
  · exact ⟨_, _, _, .inr (.inr (.inr ⟨by omega, rfl, rfl, rfl⟩))⟩
theorem int_lit2 {W : World} {x : Int} {t : TypeId} {g : Nat} (hg : g = W.heap.size) : ∀ j u, ([Value.int .i64 x])[j]? = some u → (W.alloc (.cells #[.int .i64 x] t)).cell? ((⟨g, 0, none⟩ : Addr).add j) = some u := by subst hg; exact int_lit
def r3 (x y z : Int) : List Value := [.int .i64 x, .int .i64 y, .int .i64 z]
/-- What a call that answers the ring's nodes leaves: a new row of three. -/
def RgA (x y z : Int) (w : World) (e : Ending) (w' : World) : Prop := ∃ v, e = .returned v ∧ Gro w w' (.slice none 0 0) v ∧ w'.ownsRow 0 3 1 v 3 (r3 x y z)
theorem gro_wide {w w1 w2 : World} {v0 v : Value} (hb : Below w.heap.size w w1) (hg : Gro w1 w2 v0 v) (hv : ∀ k, v0.ownBlock = some k → w.heap.size ≤ k) : Gro w w2 (.slice none 0 0) v := by
  have hB : Below w.heap.size w1 w2 := hg.below hb.size hv
  refine ⟨gb_below (hb.trans hB), fun k hk => .inr ?_⟩
  rcases hg.fresh k hk with h | h
  · exact hv k h
  · exact Nat.le_trans hb.size h

theorem placeNode_any (n k : Int) (w : World) (h : k = 40 + n * 130) (h0 : 0 ≤ n) (h3 : n ≤ 3) :
    Calls Try.prog 30 #[.int .i64 n] w fun e w' => e = .returned (.int .i64 k) ∧ Below w.heap.size w w' := by
  have q1 : IntKind.i64.wrap (n * 130) = n * 130 := by rw [IntKind.wrap_i64]; omega
  have q2 : IntKind.i64.wrap (40 + n * 130) = 40 + n * 130 := by rw [IntKind.wrap_i64]; omega
  subst h
  clear h0 h3
  go_enter Try.func30, Try.ntmps30
  go_wp2
  go_ret
  exact ⟨by first | rfl | simp, Below.refl _ _⟩

set_option maxHeartbeats 2000000 in
theorem nodesFrom_0 (p : Nat) (w : World) (hp : p < 360) (hl : p ≤ 40) :
    Calls Try.prog 25 #[.int .i64 p] w (RgA 0 1 2 w) := by
  obtain ⟨i0, hi, hz0, hz1, hz2⟩ := info_parts info_int
  have HI : Hid (Try.prog.info? 3 = some i0 ∧ i0.zero = some (.int .i64 0) ∧ i0.size = 1 ∧ i0.bytes = 8) := ⟨hi, hz0, hz1, hz2⟩
  clear hi hz0 hz1 hz2
  have g0 : ¬ (40 : Int) < (p : Int) := by omega
  have k0 : ¬ (400 : Int) < (p : Int) := by omega
  have g1 : ¬ (170 : Int) < (p : Int) := by omega
  have k1 : ¬ (530 : Int) < (p : Int) := by omega
  have g2 : ¬ (300 : Int) < (p : Int) := by omega
  have k2 : ¬ (660 : Int) < (p : Int) := by omega
  clear hp hl
  have G0 : Hid (Gro w w (.slice none 0 0) (.slice none 0 0)) := Gro.refl _ _
  have O0 : Hid (w.ownsRow 0 3 1 (.slice none 0 0) 0 []) := World.ownsRow_nil _ _ _ _
  go_enter Try.func25, Try.ntmps25
  go_wp2
  go_step3
  go_wp2
  go_step3
  go_wp2
  refine wp_loop_rounds 3 ?_
  rw [rounds_succ]
  go_wp2
  refine wp_loop_rounds 5 ?_
  rw [rounds_succ]
  go_wp2_with fail
  refine (placeNode_any 0 40 _ (by omega) (by omega) (by omega)).mono ?_
  rintro e a1 ⟨rfl, hb⟩
  replace G0 := (show Hid _ from (G0.out.trans (Gro.of_below hb)))
  replace O0 := own_hnext O0 hb
  clear hb
  go_wp2_with (first | (at_builtin; refine wpList_append2 rfl _ _ 22 rfl 3 i0 (.int .i64 0) 1 8 Try.underlying22 HI.out.1 HI.out.2.1 HI.out.2.2.1 HI.out.2.2.2 rfl (by decide) _ _ _ rfl (O0.out.alloc _) ⟨a1.heap.size, 0, none⟩ 1 1 [.int .i64 0] rfl rfl int_lit int_one (by unfold maxLen; omega) (by omega) ?_) | go_in)
  intro v2 a2 hown hgro
  obtain ⟨ao2, cp2, rfl⟩ := own_slice hown
  replace G0 := (show Hid _ from (G0.out.trans ((Gro.of_below (bel_alloc _ _)).trans hgro)))
  replace O0 : Hid (a2.ownsRow 0 3 1 _ 1 [.int .i64 0]) := hown
  clear hown hgro
  go_wp2
  rw [rounds_succ]
  go_wp2_with fail
  refine (placeNode_any 1 170 _ (by omega) (by omega) (by omega)).mono ?_
  rintro e a3 ⟨rfl, hb⟩
  replace G0 := (show Hid _ from (G0.out.trans (Gro.of_below hb)))
  replace O0 := own_hnext O0 hb
  clear hb
  go_wp2_with (first | (at_builtin; refine wpList_append2 rfl _ _ 22 rfl 3 i0 (.int .i64 0) 1 8 Try.underlying22 HI.out.1 HI.out.2.1 HI.out.2.2.1 HI.out.2.2.2 rfl (by decide) _ _ _ rfl (O0.out.alloc _) ⟨a3.heap.size, 0, none⟩ 1 1 [.int .i64 1] rfl rfl int_lit int_one (by unfold maxLen; omega) (by omega) ?_) | go_in)
  intro v4 a4 hown hgro
  obtain ⟨ao4, cp4, rfl⟩ := own_slice hown
  replace G0 := (show Hid _ from (G0.out.trans ((Gro.of_below (bel_alloc _ _)).trans hgro)))
  replace O0 : Hid (a4.ownsRow 0 3 1 _ 2 [.int .i64 0, .int .i64 1]) := hown
  clear hown hgro
  go_wp2
  rw [rounds_succ]
  go_wp2_with fail
  refine (placeNode_any 2 300 _ (by omega) (by omega) (by omega)).mono ?_
  rintro e a5 ⟨rfl, hb⟩
  replace G0 := (show Hid _ from (G0.out.trans (Gro.of_below hb)))
  replace O0 := own_hnext O0 hb
  clear hb
  go_wp2_with (first | (at_builtin; refine wpList_append2 rfl _ _ 22 rfl 3 i0 (.int .i64 0) 1 8 Try.underlying22 HI.out.1 HI.out.2.1 HI.out.2.2.1 HI.out.2.2.2 rfl (by decide) _ _ _ rfl (O0.out.alloc _) ⟨a5.heap.size, 0, none⟩ 1 1 [.int .i64 2] rfl rfl int_lit int_one (by unfold maxLen; omega) (by omega) ?_) | go_in)
  intro v6 a6 hown hgro
  obtain ⟨ao6, cp6, rfl⟩ := own_slice hown
  replace G0 := (show Hid _ from (G0.out.trans ((Gro.of_below (bel_alloc _ _)).trans hgro)))
  replace O0 : Hid (a6.ownsRow 0 3 1 _ 3 [.int .i64 0, .int .i64 1, .int .i64 2]) := hown
  clear hown hgro
  go_wp2
  try rw [Exit.noGoto_ret]
  go_ret
  exact ⟨_, rfl, G0.out, O0.out⟩

set_option maxHeartbeats 2000000 in
theorem nodesFrom_1 (p : Nat) (w : World) (hp : p < 360) (hl : 40 < p) (hu : p ≤ 170) :
    Calls Try.prog 25 #[.int .i64 p] w (RgA 1 2 0 w) := by
  obtain ⟨i0, hi, hz0, hz1, hz2⟩ := info_parts info_int
  have HI : Hid (Try.prog.info? 3 = some i0 ∧ i0.zero = some (.int .i64 0) ∧ i0.size = 1 ∧ i0.bytes = 8) := ⟨hi, hz0, hz1, hz2⟩
  clear hi hz0 hz1 hz2
  have g0 : (40 : Int) < (p : Int) := by omega
  have k0 : ¬ (400 : Int) < (p : Int) := by omega
  have g1 : ¬ (170 : Int) < (p : Int) := by omega
  have k1 : ¬ (530 : Int) < (p : Int) := by omega
  have g2 : ¬ (300 : Int) < (p : Int) := by omega
  have k2 : ¬ (660 : Int) < (p : Int) := by omega
  clear hp hl hu
  have G0 : Hid (Gro w w (.slice none 0 0) (.slice none 0 0)) := Gro.refl _ _
  have O0 : Hid (w.ownsRow 0 3 1 (.slice none 0 0) 0 []) := World.ownsRow_nil _ _ _ _
  go_enter Try.func25, Try.ntmps25
  go_wp2
  go_step3
  go_wp2
  go_step3
  go_wp2
  refine wp_loop_rounds 3 ?_
  rw [rounds_succ]
  go_wp2
  refine wp_loop_rounds 5 ?_
  rw [rounds_succ]
  go_wp2_with fail
  refine (placeNode_any 0 40 _ (by omega) (by omega) (by omega)).mono ?_
  rintro e a1 ⟨rfl, hb⟩
  replace G0 := (show Hid _ from (G0.out.trans (Gro.of_below hb)))
  replace O0 := own_hnext O0 hb
  clear hb
  go_wp2
  rw [rounds_succ]
  go_wp2_with fail
  refine (placeNode_any 1 170 _ (by omega) (by omega) (by omega)).mono ?_
  rintro e a2 ⟨rfl, hb⟩
  replace G0 := (show Hid _ from (G0.out.trans (Gro.of_below hb)))
  replace O0 := own_hnext O0 hb
  clear hb
  go_wp2_with (first | (at_builtin; refine wpList_append2 rfl _ _ 22 rfl 3 i0 (.int .i64 0) 1 8 Try.underlying22 HI.out.1 HI.out.2.1 HI.out.2.2.1 HI.out.2.2.2 rfl (by decide) _ _ _ rfl (O0.out.alloc _) ⟨a2.heap.size, 0, none⟩ 1 1 [.int .i64 1] rfl rfl int_lit int_one (by unfold maxLen; omega) (by omega) ?_) | go_in)
  intro v3 a3 hown hgro
  obtain ⟨ao3, cp3, rfl⟩ := own_slice hown
  replace G0 := (show Hid _ from (G0.out.trans ((Gro.of_below (bel_alloc _ _)).trans hgro)))
  replace O0 : Hid (a3.ownsRow 0 3 1 _ 1 [.int .i64 1]) := hown
  clear hown hgro
  go_wp2
  rw [rounds_succ]
  go_wp2_with fail
  refine (placeNode_any 2 300 _ (by omega) (by omega) (by omega)).mono ?_
  rintro e a4 ⟨rfl, hb⟩
  replace G0 := (show Hid _ from (G0.out.trans (Gro.of_below hb)))
  replace O0 := own_hnext O0 hb
  clear hb
  go_wp2_with (first | (at_builtin; refine wpList_append2 rfl _ _ 22 rfl 3 i0 (.int .i64 0) 1 8 Try.underlying22 HI.out.1 HI.out.2.1 HI.out.2.2.1 HI.out.2.2.2 rfl (by decide) _ _ _ rfl (O0.out.alloc _) ⟨a4.heap.size, 0, none⟩ 1 1 [.int .i64 2] rfl rfl int_lit int_one (by unfold maxLen; omega) (by omega) ?_) | go_in)
  intro v5 a5 hown hgro
  obtain ⟨ao5, cp5, rfl⟩ := own_slice hown
  replace G0 := (show Hid _ from (G0.out.trans ((Gro.of_below (bel_alloc _ _)).trans hgro)))
  replace O0 : Hid (a5.ownsRow 0 3 1 _ 2 [.int .i64 1, .int .i64 2]) := hown
  clear hown hgro
  go_wp2
  rw [rounds_succ]
  go_wp2
  rw [rounds_succ]
  go_wp2
  refine wp_loop_rounds 5 ?_
  rw [rounds_succ]
  go_wp2_with fail
  refine (placeNode_any 0 40 _ (by omega) (by omega) (by omega)).mono ?_
  rintro e a6 ⟨rfl, hb⟩
  replace G0 := (show Hid _ from (G0.out.trans (Gro.of_below hb)))
  replace O0 := own_hnext O0 hb
  clear hb
  go_wp2_with (first | (at_builtin; refine wpList_append2 rfl _ _ 22 rfl 3 i0 (.int .i64 0) 1 8 Try.underlying22 HI.out.1 HI.out.2.1 HI.out.2.2.1 HI.out.2.2.2 rfl (by decide) _ _ _ rfl (O0.out.alloc _) ⟨a6.heap.size, 0, none⟩ 1 1 [.int .i64 0] rfl rfl int_lit int_one (by unfold maxLen; omega) (by omega) ?_) | go_in)
  intro v7 a7 hown hgro
  obtain ⟨ao7, cp7, rfl⟩ := own_slice hown
  replace G0 := (show Hid _ from (G0.out.trans ((Gro.of_below (bel_alloc _ _)).trans hgro)))
  replace O0 : Hid (a7.ownsRow 0 3 1 _ 3 [.int .i64 1, .int .i64 2, .int .i64 0]) := hown
  clear hown hgro
  go_wp2
  try rw [Exit.noGoto_ret]
  go_ret
  exact ⟨_, rfl, G0.out, O0.out⟩

set_option maxHeartbeats 2000000 in
theorem nodesFrom_2 (p : Nat) (w : World) (hp : p < 360) (hl : 170 < p) (hu : p ≤ 300) :
    Calls Try.prog 25 #[.int .i64 p] w (RgA 2 0 1 w) := by
  obtain ⟨i0, hi, hz0, hz1, hz2⟩ := info_parts info_int
  have HI : Hid (Try.prog.info? 3 = some i0 ∧ i0.zero = some (.int .i64 0) ∧ i0.size = 1 ∧ i0.bytes = 8) := ⟨hi, hz0, hz1, hz2⟩
  clear hi hz0 hz1 hz2
  have g0 : (40 : Int) < (p : Int) := by omega
  have k0 : ¬ (400 : Int) < (p : Int) := by omega
  have g1 : (170 : Int) < (p : Int) := by omega
  have k1 : ¬ (530 : Int) < (p : Int) := by omega
  have g2 : ¬ (300 : Int) < (p : Int) := by omega
  have k2 : ¬ (660 : Int) < (p : Int) := by omega
  clear hp hl hu
  have G0 : Hid (Gro w w (.slice none 0 0) (.slice none 0 0)) := Gro.refl _ _
  have O0 : Hid (w.ownsRow 0 3 1 (.slice none 0 0) 0 []) := World.ownsRow_nil _ _ _ _
  go_enter Try.func25, Try.ntmps25
  go_wp2
  go_step3
  go_wp2
  go_step3
  go_wp2
  refine wp_loop_rounds 3 ?_
  rw [rounds_succ]
  go_wp2
  refine wp_loop_rounds 5 ?_
  rw [rounds_succ]
  go_wp2_with fail
  refine (placeNode_any 0 40 _ (by omega) (by omega) (by omega)).mono ?_
  rintro e a1 ⟨rfl, hb⟩
  replace G0 := (show Hid _ from (G0.out.trans (Gro.of_below hb)))
  replace O0 := own_hnext O0 hb
  clear hb
  go_wp2
  rw [rounds_succ]
  go_wp2_with fail
  refine (placeNode_any 1 170 _ (by omega) (by omega) (by omega)).mono ?_
  rintro e a2 ⟨rfl, hb⟩
  replace G0 := (show Hid _ from (G0.out.trans (Gro.of_below hb)))
  replace O0 := own_hnext O0 hb
  clear hb
  go_wp2
  rw [rounds_succ]
  go_wp2_with fail
  refine (placeNode_any 2 300 _ (by omega) (by omega) (by omega)).mono ?_
  rintro e a3 ⟨rfl, hb⟩
  replace G0 := (show Hid _ from (G0.out.trans (Gro.of_below hb)))
  replace O0 := own_hnext O0 hb
  clear hb
  go_wp2_with (first | (at_builtin; refine wpList_append2 rfl _ _ 22 rfl 3 i0 (.int .i64 0) 1 8 Try.underlying22 HI.out.1 HI.out.2.1 HI.out.2.2.1 HI.out.2.2.2 rfl (by decide) _ _ _ rfl (O0.out.alloc _) ⟨a3.heap.size, 0, none⟩ 1 1 [.int .i64 2] rfl rfl int_lit int_one (by unfold maxLen; omega) (by omega) ?_) | go_in)
  intro v4 a4 hown hgro
  obtain ⟨ao4, cp4, rfl⟩ := own_slice hown
  replace G0 := (show Hid _ from (G0.out.trans ((Gro.of_below (bel_alloc _ _)).trans hgro)))
  replace O0 : Hid (a4.ownsRow 0 3 1 _ 1 [.int .i64 2]) := hown
  clear hown hgro
  go_wp2
  rw [rounds_succ]
  go_wp2
  rw [rounds_succ]
  go_wp2
  refine wp_loop_rounds 5 ?_
  rw [rounds_succ]
  go_wp2_with fail
  refine (placeNode_any 0 40 _ (by omega) (by omega) (by omega)).mono ?_
  rintro e a5 ⟨rfl, hb⟩
  replace G0 := (show Hid _ from (G0.out.trans (Gro.of_below hb)))
  replace O0 := own_hnext O0 hb
  clear hb
  go_wp2_with (first | (at_builtin; refine wpList_append2 rfl _ _ 22 rfl 3 i0 (.int .i64 0) 1 8 Try.underlying22 HI.out.1 HI.out.2.1 HI.out.2.2.1 HI.out.2.2.2 rfl (by decide) _ _ _ rfl (O0.out.alloc _) ⟨a5.heap.size, 0, none⟩ 1 1 [.int .i64 0] rfl rfl int_lit int_one (by unfold maxLen; omega) (by omega) ?_) | go_in)
  intro v6 a6 hown hgro
  obtain ⟨ao6, cp6, rfl⟩ := own_slice hown
  replace G0 := (show Hid _ from (G0.out.trans ((Gro.of_below (bel_alloc _ _)).trans hgro)))
  replace O0 : Hid (a6.ownsRow 0 3 1 _ 2 [.int .i64 2, .int .i64 0]) := hown
  clear hown hgro
  go_wp2
  rw [rounds_succ]
  go_wp2_with fail
  refine (placeNode_any 1 170 _ (by omega) (by omega) (by omega)).mono ?_
  rintro e a7 ⟨rfl, hb⟩
  replace G0 := (show Hid _ from (G0.out.trans (Gro.of_below hb)))
  replace O0 := own_hnext O0 hb
  clear hb
  go_wp2_with (first | (at_builtin; refine wpList_append2 rfl _ _ 22 rfl 3 i0 (.int .i64 0) 1 8 Try.underlying22 HI.out.1 HI.out.2.1 HI.out.2.2.1 HI.out.2.2.2 rfl (by decide) _ _ _ rfl (O0.out.alloc _) ⟨a7.heap.size, 0, none⟩ 1 1 [.int .i64 1] rfl rfl int_lit int_one (by unfold maxLen; omega) (by omega) ?_) | go_in)
  intro v8 a8 hown hgro
  obtain ⟨ao8, cp8, rfl⟩ := own_slice hown
  replace G0 := (show Hid _ from (G0.out.trans ((Gro.of_below (bel_alloc _ _)).trans hgro)))
  replace O0 : Hid (a8.ownsRow 0 3 1 _ 3 [.int .i64 2, .int .i64 0, .int .i64 1]) := hown
  clear hown hgro
  go_wp2
  try rw [Exit.noGoto_ret]
  go_ret
  exact ⟨_, rfl, G0.out, O0.out⟩

set_option maxHeartbeats 2000000 in
theorem nodesFrom_3 (p : Nat) (w : World) (hp : p < 360) (hl : 300 < p) :
    Calls Try.prog 25 #[.int .i64 p] w (RgA 0 1 2 w) := by
  obtain ⟨i0, hi, hz0, hz1, hz2⟩ := info_parts info_int
  have HI : Hid (Try.prog.info? 3 = some i0 ∧ i0.zero = some (.int .i64 0) ∧ i0.size = 1 ∧ i0.bytes = 8) := ⟨hi, hz0, hz1, hz2⟩
  clear hi hz0 hz1 hz2
  have g0 : (40 : Int) < (p : Int) := by omega
  have k0 : ¬ (400 : Int) < (p : Int) := by omega
  have g1 : (170 : Int) < (p : Int) := by omega
  have k1 : ¬ (530 : Int) < (p : Int) := by omega
  have g2 : (300 : Int) < (p : Int) := by omega
  have k2 : ¬ (660 : Int) < (p : Int) := by omega
  clear hp hl
  have G0 : Hid (Gro w w (.slice none 0 0) (.slice none 0 0)) := Gro.refl _ _
  have O0 : Hid (w.ownsRow 0 3 1 (.slice none 0 0) 0 []) := World.ownsRow_nil _ _ _ _
  go_enter Try.func25, Try.ntmps25
  go_wp2
  go_step3
  go_wp2
  go_step3
  go_wp2
  refine wp_loop_rounds 3 ?_
  rw [rounds_succ]
  go_wp2
  refine wp_loop_rounds 5 ?_
  rw [rounds_succ]
  go_wp2_with fail
  refine (placeNode_any 0 40 _ (by omega) (by omega) (by omega)).mono ?_
  rintro e a1 ⟨rfl, hb⟩
  replace G0 := (show Hid _ from (G0.out.trans (Gro.of_below hb)))
  replace O0 := own_hnext O0 hb
  clear hb
  go_wp2
  rw [rounds_succ]
  go_wp2_with fail
  refine (placeNode_any 1 170 _ (by omega) (by omega) (by omega)).mono ?_
  rintro e a2 ⟨rfl, hb⟩
  replace G0 := (show Hid _ from (G0.out.trans (Gro.of_below hb)))
  replace O0 := own_hnext O0 hb
  clear hb
  go_wp2
  rw [rounds_succ]
  go_wp2_with fail
  refine (placeNode_any 2 300 _ (by omega) (by omega) (by omega)).mono ?_
  rintro e a3 ⟨rfl, hb⟩
  replace G0 := (show Hid _ from (G0.out.trans (Gro.of_below hb)))
  replace O0 := own_hnext O0 hb
  clear hb
  go_wp2
  rw [rounds_succ]
  go_wp2
  rw [rounds_succ]
  go_wp2
  refine wp_loop_rounds 5 ?_
  rw [rounds_succ]
  go_wp2_with fail
  refine (placeNode_any 0 40 _ (by omega) (by omega) (by omega)).mono ?_
  rintro e a4 ⟨rfl, hb⟩
  replace G0 := (show Hid _ from (G0.out.trans (Gro.of_below hb)))
  replace O0 := own_hnext O0 hb
  clear hb
  go_wp2_with (first | (at_builtin; refine wpList_append2 rfl _ _ 22 rfl 3 i0 (.int .i64 0) 1 8 Try.underlying22 HI.out.1 HI.out.2.1 HI.out.2.2.1 HI.out.2.2.2 rfl (by decide) _ _ _ rfl (O0.out.alloc _) ⟨a4.heap.size, 0, none⟩ 1 1 [.int .i64 0] rfl rfl int_lit int_one (by unfold maxLen; omega) (by omega) ?_) | go_in)
  intro v5 a5 hown hgro
  obtain ⟨ao5, cp5, rfl⟩ := own_slice hown
  replace G0 := (show Hid _ from (G0.out.trans ((Gro.of_below (bel_alloc _ _)).trans hgro)))
  replace O0 : Hid (a5.ownsRow 0 3 1 _ 1 [.int .i64 0]) := hown
  clear hown hgro
  go_wp2
  rw [rounds_succ]
  go_wp2_with fail
  refine (placeNode_any 1 170 _ (by omega) (by omega) (by omega)).mono ?_
  rintro e a6 ⟨rfl, hb⟩
  replace G0 := (show Hid _ from (G0.out.trans (Gro.of_below hb)))
  replace O0 := own_hnext O0 hb
  clear hb
  go_wp2_with (first | (at_builtin; refine wpList_append2 rfl _ _ 22 rfl 3 i0 (.int .i64 0) 1 8 Try.underlying22 HI.out.1 HI.out.2.1 HI.out.2.2.1 HI.out.2.2.2 rfl (by decide) _ _ _ rfl (O0.out.alloc _) ⟨a6.heap.size, 0, none⟩ 1 1 [.int .i64 1] rfl rfl int_lit int_one (by unfold maxLen; omega) (by omega) ?_) | go_in)
  intro v7 a7 hown hgro
  obtain ⟨ao7, cp7, rfl⟩ := own_slice hown
  replace G0 := (show Hid _ from (G0.out.trans ((Gro.of_below (bel_alloc _ _)).trans hgro)))
  replace O0 : Hid (a7.ownsRow 0 3 1 _ 2 [.int .i64 0, .int .i64 1]) := hown
  clear hown hgro
  go_wp2
  rw [rounds_succ]
  go_wp2_with fail
  refine (placeNode_any 2 300 _ (by omega) (by omega) (by omega)).mono ?_
  rintro e a8 ⟨rfl, hb⟩
  replace G0 := (show Hid _ from (G0.out.trans (Gro.of_below hb)))
  replace O0 := own_hnext O0 hb
  clear hb
  go_wp2_with (first | (at_builtin; refine wpList_append2 rfl _ _ 22 rfl 3 i0 (.int .i64 0) 1 8 Try.underlying22 HI.out.1 HI.out.2.1 HI.out.2.2.1 HI.out.2.2.2 rfl (by decide) _ _ _ rfl (O0.out.alloc _) ⟨a8.heap.size, 0, none⟩ 1 1 [.int .i64 2] rfl rfl int_lit int_one (by unfold maxLen; omega) (by omega) ?_) | go_in)
  intro v9 a9 hown hgro
  obtain ⟨ao9, cp9, rfl⟩ := own_slice hown
  replace G0 := (show Hid _ from (G0.out.trans ((Gro.of_below (bel_alloc _ _)).trans hgro)))
  replace O0 : Hid (a9.ownsRow 0 3 1 _ 3 [.int .i64 0, .int .i64 1, .int .i64 2]) := hown
  clear hown hgro
  go_wp2
  try rw [Exit.noGoto_ret]
  go_ret
  exact ⟨_, rfl, G0.out, O0.out⟩

theorem nodesFrom_any (p : Nat) (x y z : Int) (w : World) (hp : p < 360) (h : RingP p x y z) : Calls Try.prog 25 #[.int .i64 p] w (RgA x y z w) := by
  rcases h with ⟨h, rfl, rfl, rfl⟩ | ⟨h, h', rfl, rfl, rfl⟩ | ⟨h, h', rfl, rfl, rfl⟩ | ⟨h, rfl, rfl, rfl⟩
  · exact nodesFrom_0 p w hp h
  · exact nodesFrom_1 p w hp h h'
  · exact nodesFrom_2 p w hp h h'
  · exact nodesFrom_3 p w hp h

set_option maxHeartbeats 2000000 in
theorem pref_0 (s : ByteArray) (p : Nat) (w : World) (C : Hid (∀ w, Calls Try.prog 23 #[.string s] w fun e w' => e = .returned (.int .i64 (p : Int)) ∧ Below w.heap.size w w')) (hp : p < 360) (hl : p ≤ 40) :
    Calls Try.prog 16 #[.string s] w (RgA 0 1 2 w) := by
  obtain ⟨i0, hi, hz0, hz1, hz2⟩ := info_parts info_int
  have HI : Hid (Try.prog.info? 3 = some i0 ∧ i0.zero = some (.int .i64 0) ∧ i0.size = 1 ∧ i0.bytes = 8) := ⟨hi, hz0, hz1, hz2⟩
  clear hi hz0 hz1 hz2
  have g0 : ¬ (40 : Int) < (p : Int) := by omega
  have g1 : ¬ (170 : Int) < (p : Int) := by omega
  have g2 : ¬ (300 : Int) < (p : Int) := by omega
  clear hp hl
  go_enter Try.func16, Try.ntmps16
  go_wp2_with fail
  refine (Calls.mono (C.out _) ?_)
  rintro e w1 ⟨rfl, hb⟩
  have HB : Hid (Below w.heap.size w w1) := hb
  clear hb C
  go_wp2
  refine wp_loop_rounds 4 ?_
  rw [rounds_succ]
  go_wp2
  have O0 : Hid ((w1.alloc (.cells #[] 3)).ownsRow 0 3 1 (.slice (some ⟨w1.heap.size, 0, none⟩) 0 0) 0 []) := by
    have hq := World.ownsRow_lit (base := 0) (e := 3) (size := 1) w1 #[] 0 (Nat.zero_le _) (by unfold maxLen; omega) (by simp)
    show World.ownsRow _ _ _ _ _ _ _
    simpa using hq
  have G0 : Hid (Gro (w1.alloc (.cells #[] 3)) (w1.alloc (.cells #[] 3)) (.slice (some ⟨w1.heap.size, 0, none⟩) 0 0) (.slice (some ⟨w1.heap.size, 0, none⟩) 0 0)) := Gro.refl _ _
  refine wp_loop_rounds 4 ?_
  rw [rounds_succ]
  go_wp2_with (first | (at_builtin; refine wpList_append2 rfl _ _ 22 rfl 3 i0 (.int .i64 0) 1 8 Try.underlying22 HI.out.1 HI.out.2.1 HI.out.2.2.1 HI.out.2.2.2 rfl (by decide) _ _ _ rfl (O0.out.alloc _) ⟨w1.heap.size + 1, 0, none⟩ 1 1 [.int .i64 0] rfl rfl (int_lit2 (by simp)) int_one (by unfold maxLen; omega) (by omega) ?_) | go_in)
  intro v0 a0 hown hgro
  obtain ⟨ao0, cp0, rfl⟩ := own_slice hown
  replace G0 := (show Hid _ from (G0.out.trans ((Gro.of_below (bel_alloc _ _)).trans hgro)))
  replace O0 : Hid (a0.ownsRow 0 3 1 _ 1 [.int .i64 0]) := hown
  clear hown hgro
  go_wp2
  rw [rounds_succ]
  go_wp2_with (first | (at_builtin; refine wpList_append2 rfl _ _ 22 rfl 3 i0 (.int .i64 0) 1 8 Try.underlying22 HI.out.1 HI.out.2.1 HI.out.2.2.1 HI.out.2.2.2 rfl (by decide) _ _ _ rfl (O0.out.alloc _) ⟨a0.heap.size, 0, none⟩ 1 1 [.int .i64 1] rfl rfl int_lit int_one (by unfold maxLen; omega) (by omega) ?_) | go_in)
  intro v1 a1 hown hgro
  obtain ⟨ao1, cp1, rfl⟩ := own_slice hown
  replace G0 := (show Hid _ from (G0.out.trans ((Gro.of_below (bel_alloc _ _)).trans hgro)))
  replace O0 : Hid (a1.ownsRow 0 3 1 _ 2 [.int .i64 0, .int .i64 1]) := hown
  clear hown hgro
  go_wp2
  rw [rounds_succ]
  go_wp2_with (first | (at_builtin; refine wpList_append2 rfl _ _ 22 rfl 3 i0 (.int .i64 0) 1 8 Try.underlying22 HI.out.1 HI.out.2.1 HI.out.2.2.1 HI.out.2.2.2 rfl (by decide) _ _ _ rfl (O0.out.alloc _) ⟨a1.heap.size, 0, none⟩ 1 1 [.int .i64 2] rfl rfl int_lit int_one (by unfold maxLen; omega) (by omega) ?_) | go_in)
  intro v2 a2 hown hgro
  obtain ⟨ao2, cp2, rfl⟩ := own_slice hown
  replace G0 := (show Hid _ from (G0.out.trans ((Gro.of_below (bel_alloc _ _)).trans hgro)))
  replace O0 : Hid (a2.ownsRow 0 3 1 _ 3 [.int .i64 0, .int .i64 1, .int .i64 2]) := hown
  clear hown hgro
  go_wp2
  rw [rounds_succ]
  go_wp2
  go_ret
  exact ⟨_, rfl, gro_wide (HB.out.trans ((bel_alloc _ _).mono HB.out.size)) G0.out (fun k hk => by simp [Value.ownBlock] at hk; have := HB.out.size; omega), O0.out⟩

set_option maxHeartbeats 2000000 in
theorem pref_1 (s : ByteArray) (p : Nat) (w : World) (C : Hid (∀ w, Calls Try.prog 23 #[.string s] w fun e w' => e = .returned (.int .i64 (p : Int)) ∧ Below w.heap.size w w')) (hp : p < 360) (hl : 40 < p) (hu : p ≤ 170) :
    Calls Try.prog 16 #[.string s] w (RgA 1 2 0 w) := by
  obtain ⟨i0, hi, hz0, hz1, hz2⟩ := info_parts info_int
  have HI : Hid (Try.prog.info? 3 = some i0 ∧ i0.zero = some (.int .i64 0) ∧ i0.size = 1 ∧ i0.bytes = 8) := ⟨hi, hz0, hz1, hz2⟩
  clear hi hz0 hz1 hz2
  have g0 : (40 : Int) < (p : Int) := by omega
  have g1 : ¬ (170 : Int) < (p : Int) := by omega
  have g2 : ¬ (300 : Int) < (p : Int) := by omega
  clear hp hl hu
  go_enter Try.func16, Try.ntmps16
  go_wp2_with fail
  refine (Calls.mono (C.out _) ?_)
  rintro e w1 ⟨rfl, hb⟩
  have HB : Hid (Below w.heap.size w w1) := hb
  clear hb C
  go_wp2
  refine wp_loop_rounds 4 ?_
  rw [rounds_succ]
  go_wp2
  rw [rounds_succ]
  go_wp2
  have O0 : Hid ((w1.alloc (.cells #[] 3)).ownsRow 0 3 1 (.slice (some ⟨w1.heap.size, 0, none⟩) 0 0) 0 []) := by
    have hq := World.ownsRow_lit (base := 0) (e := 3) (size := 1) w1 #[] 0 (Nat.zero_le _) (by unfold maxLen; omega) (by simp)
    show World.ownsRow _ _ _ _ _ _ _
    simpa using hq
  have G0 : Hid (Gro (w1.alloc (.cells #[] 3)) (w1.alloc (.cells #[] 3)) (.slice (some ⟨w1.heap.size, 0, none⟩) 0 0) (.slice (some ⟨w1.heap.size, 0, none⟩) 0 0)) := Gro.refl _ _
  refine wp_loop_rounds 4 ?_
  rw [rounds_succ]
  go_wp2_with (first | (at_builtin; refine wpList_append2 rfl _ _ 22 rfl 3 i0 (.int .i64 0) 1 8 Try.underlying22 HI.out.1 HI.out.2.1 HI.out.2.2.1 HI.out.2.2.2 rfl (by decide) _ _ _ rfl (O0.out.alloc _) ⟨w1.heap.size + 1, 0, none⟩ 1 1 [.int .i64 1] rfl rfl (int_lit2 (by simp)) int_one (by unfold maxLen; omega) (by omega) ?_) | go_in)
  intro v0 a0 hown hgro
  obtain ⟨ao0, cp0, rfl⟩ := own_slice hown
  replace G0 := (show Hid _ from (G0.out.trans ((Gro.of_below (bel_alloc _ _)).trans hgro)))
  replace O0 : Hid (a0.ownsRow 0 3 1 _ 1 [.int .i64 1]) := hown
  clear hown hgro
  go_wp2
  rw [rounds_succ]
  go_wp2_with (first | (at_builtin; refine wpList_append2 rfl _ _ 22 rfl 3 i0 (.int .i64 0) 1 8 Try.underlying22 HI.out.1 HI.out.2.1 HI.out.2.2.1 HI.out.2.2.2 rfl (by decide) _ _ _ rfl (O0.out.alloc _) ⟨a0.heap.size, 0, none⟩ 1 1 [.int .i64 2] rfl rfl int_lit int_one (by unfold maxLen; omega) (by omega) ?_) | go_in)
  intro v1 a1 hown hgro
  obtain ⟨ao1, cp1, rfl⟩ := own_slice hown
  replace G0 := (show Hid _ from (G0.out.trans ((Gro.of_below (bel_alloc _ _)).trans hgro)))
  replace O0 : Hid (a1.ownsRow 0 3 1 _ 2 [.int .i64 1, .int .i64 2]) := hown
  clear hown hgro
  go_wp2
  rw [rounds_succ]
  go_wp2_with (first | (at_builtin; refine wpList_append2 rfl _ _ 22 rfl 3 i0 (.int .i64 0) 1 8 Try.underlying22 HI.out.1 HI.out.2.1 HI.out.2.2.1 HI.out.2.2.2 rfl (by decide) _ _ _ rfl (O0.out.alloc _) ⟨a1.heap.size, 0, none⟩ 1 1 [.int .i64 0] rfl rfl int_lit int_one (by unfold maxLen; omega) (by omega) ?_) | go_in)
  intro v2 a2 hown hgro
  obtain ⟨ao2, cp2, rfl⟩ := own_slice hown
  replace G0 := (show Hid _ from (G0.out.trans ((Gro.of_below (bel_alloc _ _)).trans hgro)))
  replace O0 : Hid (a2.ownsRow 0 3 1 _ 3 [.int .i64 1, .int .i64 2, .int .i64 0]) := hown
  clear hown hgro
  go_wp2
  rw [rounds_succ]
  go_wp2
  go_ret
  exact ⟨_, rfl, gro_wide (HB.out.trans ((bel_alloc _ _).mono HB.out.size)) G0.out (fun k hk => by simp [Value.ownBlock] at hk; have := HB.out.size; omega), O0.out⟩

set_option maxHeartbeats 2000000 in
theorem pref_2 (s : ByteArray) (p : Nat) (w : World) (C : Hid (∀ w, Calls Try.prog 23 #[.string s] w fun e w' => e = .returned (.int .i64 (p : Int)) ∧ Below w.heap.size w w')) (hp : p < 360) (hl : 170 < p) (hu : p ≤ 300) :
    Calls Try.prog 16 #[.string s] w (RgA 2 0 1 w) := by
  obtain ⟨i0, hi, hz0, hz1, hz2⟩ := info_parts info_int
  have HI : Hid (Try.prog.info? 3 = some i0 ∧ i0.zero = some (.int .i64 0) ∧ i0.size = 1 ∧ i0.bytes = 8) := ⟨hi, hz0, hz1, hz2⟩
  clear hi hz0 hz1 hz2
  have g0 : (40 : Int) < (p : Int) := by omega
  have g1 : (170 : Int) < (p : Int) := by omega
  have g2 : ¬ (300 : Int) < (p : Int) := by omega
  clear hp hl hu
  go_enter Try.func16, Try.ntmps16
  go_wp2_with fail
  refine (Calls.mono (C.out _) ?_)
  rintro e w1 ⟨rfl, hb⟩
  have HB : Hid (Below w.heap.size w w1) := hb
  clear hb C
  go_wp2
  refine wp_loop_rounds 4 ?_
  rw [rounds_succ]
  go_wp2
  rw [rounds_succ]
  go_wp2
  rw [rounds_succ]
  go_wp2
  have O0 : Hid ((w1.alloc (.cells #[] 3)).ownsRow 0 3 1 (.slice (some ⟨w1.heap.size, 0, none⟩) 0 0) 0 []) := by
    have hq := World.ownsRow_lit (base := 0) (e := 3) (size := 1) w1 #[] 0 (Nat.zero_le _) (by unfold maxLen; omega) (by simp)
    show World.ownsRow _ _ _ _ _ _ _
    simpa using hq
  have G0 : Hid (Gro (w1.alloc (.cells #[] 3)) (w1.alloc (.cells #[] 3)) (.slice (some ⟨w1.heap.size, 0, none⟩) 0 0) (.slice (some ⟨w1.heap.size, 0, none⟩) 0 0)) := Gro.refl _ _
  refine wp_loop_rounds 4 ?_
  rw [rounds_succ]
  go_wp2_with (first | (at_builtin; refine wpList_append2 rfl _ _ 22 rfl 3 i0 (.int .i64 0) 1 8 Try.underlying22 HI.out.1 HI.out.2.1 HI.out.2.2.1 HI.out.2.2.2 rfl (by decide) _ _ _ rfl (O0.out.alloc _) ⟨w1.heap.size + 1, 0, none⟩ 1 1 [.int .i64 2] rfl rfl (int_lit2 (by simp)) int_one (by unfold maxLen; omega) (by omega) ?_) | go_in)
  intro v0 a0 hown hgro
  obtain ⟨ao0, cp0, rfl⟩ := own_slice hown
  replace G0 := (show Hid _ from (G0.out.trans ((Gro.of_below (bel_alloc _ _)).trans hgro)))
  replace O0 : Hid (a0.ownsRow 0 3 1 _ 1 [.int .i64 2]) := hown
  clear hown hgro
  go_wp2
  rw [rounds_succ]
  go_wp2_with (first | (at_builtin; refine wpList_append2 rfl _ _ 22 rfl 3 i0 (.int .i64 0) 1 8 Try.underlying22 HI.out.1 HI.out.2.1 HI.out.2.2.1 HI.out.2.2.2 rfl (by decide) _ _ _ rfl (O0.out.alloc _) ⟨a0.heap.size, 0, none⟩ 1 1 [.int .i64 0] rfl rfl int_lit int_one (by unfold maxLen; omega) (by omega) ?_) | go_in)
  intro v1 a1 hown hgro
  obtain ⟨ao1, cp1, rfl⟩ := own_slice hown
  replace G0 := (show Hid _ from (G0.out.trans ((Gro.of_below (bel_alloc _ _)).trans hgro)))
  replace O0 : Hid (a1.ownsRow 0 3 1 _ 2 [.int .i64 2, .int .i64 0]) := hown
  clear hown hgro
  go_wp2
  rw [rounds_succ]
  go_wp2_with (first | (at_builtin; refine wpList_append2 rfl _ _ 22 rfl 3 i0 (.int .i64 0) 1 8 Try.underlying22 HI.out.1 HI.out.2.1 HI.out.2.2.1 HI.out.2.2.2 rfl (by decide) _ _ _ rfl (O0.out.alloc _) ⟨a1.heap.size, 0, none⟩ 1 1 [.int .i64 1] rfl rfl int_lit int_one (by unfold maxLen; omega) (by omega) ?_) | go_in)
  intro v2 a2 hown hgro
  obtain ⟨ao2, cp2, rfl⟩ := own_slice hown
  replace G0 := (show Hid _ from (G0.out.trans ((Gro.of_below (bel_alloc _ _)).trans hgro)))
  replace O0 : Hid (a2.ownsRow 0 3 1 _ 3 [.int .i64 2, .int .i64 0, .int .i64 1]) := hown
  clear hown hgro
  go_wp2
  rw [rounds_succ]
  go_wp2
  go_ret
  exact ⟨_, rfl, gro_wide (HB.out.trans ((bel_alloc _ _).mono HB.out.size)) G0.out (fun k hk => by simp [Value.ownBlock] at hk; have := HB.out.size; omega), O0.out⟩

set_option maxHeartbeats 2000000 in
theorem pref_3 (s : ByteArray) (p : Nat) (w : World) (C : Hid (∀ w, Calls Try.prog 23 #[.string s] w fun e w' => e = .returned (.int .i64 (p : Int)) ∧ Below w.heap.size w w')) (hp : p < 360) (hl : 300 < p) :
    Calls Try.prog 16 #[.string s] w (RgA 0 1 2 w) := by
  obtain ⟨i0, hi, hz0, hz1, hz2⟩ := info_parts info_int
  have HI : Hid (Try.prog.info? 3 = some i0 ∧ i0.zero = some (.int .i64 0) ∧ i0.size = 1 ∧ i0.bytes = 8) := ⟨hi, hz0, hz1, hz2⟩
  clear hi hz0 hz1 hz2
  have g0 : (40 : Int) < (p : Int) := by omega
  have g1 : (170 : Int) < (p : Int) := by omega
  have g2 : (300 : Int) < (p : Int) := by omega
  clear hp hl
  go_enter Try.func16, Try.ntmps16
  go_wp2_with fail
  refine (Calls.mono (C.out _) ?_)
  rintro e w1 ⟨rfl, hb⟩
  have HB : Hid (Below w.heap.size w w1) := hb
  clear hb C
  go_wp2
  refine wp_loop_rounds 4 ?_
  rw [rounds_succ]
  go_wp2
  rw [rounds_succ]
  go_wp2
  rw [rounds_succ]
  go_wp2
  rw [rounds_succ]
  go_wp2
  have O0 : Hid ((w1.alloc (.cells #[] 3)).ownsRow 0 3 1 (.slice (some ⟨w1.heap.size, 0, none⟩) 0 0) 0 []) := by
    have hq := World.ownsRow_lit (base := 0) (e := 3) (size := 1) w1 #[] 0 (Nat.zero_le _) (by unfold maxLen; omega) (by simp)
    show World.ownsRow _ _ _ _ _ _ _
    simpa using hq
  have G0 : Hid (Gro (w1.alloc (.cells #[] 3)) (w1.alloc (.cells #[] 3)) (.slice (some ⟨w1.heap.size, 0, none⟩) 0 0) (.slice (some ⟨w1.heap.size, 0, none⟩) 0 0)) := Gro.refl _ _
  refine wp_loop_rounds 4 ?_
  rw [rounds_succ]
  go_wp2_with (first | (at_builtin; refine wpList_append2 rfl _ _ 22 rfl 3 i0 (.int .i64 0) 1 8 Try.underlying22 HI.out.1 HI.out.2.1 HI.out.2.2.1 HI.out.2.2.2 rfl (by decide) _ _ _ rfl (O0.out.alloc _) ⟨w1.heap.size + 1, 0, none⟩ 1 1 [.int .i64 0] rfl rfl (int_lit2 (by simp)) int_one (by unfold maxLen; omega) (by omega) ?_) | go_in)
  intro v0 a0 hown hgro
  obtain ⟨ao0, cp0, rfl⟩ := own_slice hown
  replace G0 := (show Hid _ from (G0.out.trans ((Gro.of_below (bel_alloc _ _)).trans hgro)))
  replace O0 : Hid (a0.ownsRow 0 3 1 _ 1 [.int .i64 0]) := hown
  clear hown hgro
  go_wp2
  rw [rounds_succ]
  go_wp2_with (first | (at_builtin; refine wpList_append2 rfl _ _ 22 rfl 3 i0 (.int .i64 0) 1 8 Try.underlying22 HI.out.1 HI.out.2.1 HI.out.2.2.1 HI.out.2.2.2 rfl (by decide) _ _ _ rfl (O0.out.alloc _) ⟨a0.heap.size, 0, none⟩ 1 1 [.int .i64 1] rfl rfl int_lit int_one (by unfold maxLen; omega) (by omega) ?_) | go_in)
  intro v1 a1 hown hgro
  obtain ⟨ao1, cp1, rfl⟩ := own_slice hown
  replace G0 := (show Hid _ from (G0.out.trans ((Gro.of_below (bel_alloc _ _)).trans hgro)))
  replace O0 : Hid (a1.ownsRow 0 3 1 _ 2 [.int .i64 0, .int .i64 1]) := hown
  clear hown hgro
  go_wp2
  rw [rounds_succ]
  go_wp2_with (first | (at_builtin; refine wpList_append2 rfl _ _ 22 rfl 3 i0 (.int .i64 0) 1 8 Try.underlying22 HI.out.1 HI.out.2.1 HI.out.2.2.1 HI.out.2.2.2 rfl (by decide) _ _ _ rfl (O0.out.alloc _) ⟨a1.heap.size, 0, none⟩ 1 1 [.int .i64 2] rfl rfl int_lit int_one (by unfold maxLen; omega) (by omega) ?_) | go_in)
  intro v2 a2 hown hgro
  obtain ⟨ao2, cp2, rfl⟩ := own_slice hown
  replace G0 := (show Hid _ from (G0.out.trans ((Gro.of_below (bel_alloc _ _)).trans hgro)))
  replace O0 : Hid (a2.ownsRow 0 3 1 _ 3 [.int .i64 0, .int .i64 1, .int .i64 2]) := hown
  clear hown hgro
  go_wp2
  rw [rounds_succ]
  go_wp2
  go_ret
  exact ⟨_, rfl, gro_wide (HB.out.trans ((bel_alloc _ _).mono HB.out.size)) G0.out (fun k hk => by simp [Value.ownBlock] at hk; have := HB.out.size; omega), O0.out⟩

theorem pref_any (s : ByteArray) (x y z : Int) (w : World) (hs : s.size < 1099511627776) (h : RingP (sumTo s s.size * 37 % 360) x y z) : Calls Try.prog 16 #[.string s] w (RgA x y z w) := by
  have hp : sumTo s s.size * 37 % 360 < 360 := Nat.mod_lt _ (by omega)
  have C : Hid (∀ w, Calls Try.prog 23 #[.string s] w fun e w' => e = .returned (.int .i64 ((sumTo s s.size * 37 % 360 : Nat) : Int)) ∧ Below w.heap.size w w') := fun w => specPlace_any s w hs
  rcases h with ⟨h, rfl, rfl, rfl⟩ | ⟨h, h', rfl, rfl, rfl⟩ | ⟨h, h', rfl, rfl, rfl⟩ | ⟨h, rfl, rfl, rfl⟩
  · exact pref_0 s _ w C hp h
  · exact pref_1 s _ w C hp h h'
  · exact pref_2 s _ w C hp h h'
  · exact pref_3 s _ w C hp h

end Go.Proofs.Ytmkichdiecpklaa

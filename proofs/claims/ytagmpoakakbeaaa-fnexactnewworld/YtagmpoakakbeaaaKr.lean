/- Rows of three new nodes, of three bools, compared. -/
import Derived.Test.YtagmpoakakbeaaaRows
import Derived.WalkKit
import Derived.WalkSpells
import Derived.WalkLawsBesides
import Derived.Deep.QuietTactic
import Derived.BigQuiet
import Derived.Deep.RegionHeld3
import Derived.Test.YtagmpoakakbeaaaKn
import Derived.LoopN
namespace Go.Proofs.Ytagmpoakakbeaaa
open Go.RowKit
set_option linter.unusedSimpArgs false
set_option linter.unusedVariables false
/-- Three new nodes in a row. -/
abbrev three (p : Nat → Option Addr) (s : Nat → Nat) : List Value := [.int .i64 0, .int .i64 0, .int .i64 0, .slice (p 0) 0 (s 0), .slice (p 1) 0 (s 1), .slice (p 2) 0 (s 2), .slice (p 3) 0 (s 3), .int .i64 1, .int .i64 0, .int .i64 0, .slice (p 4) 0 (s 4), .slice (p 5) 0 (s 5), .slice (p 6) 0 (s 6), .slice (p 7) 0 (s 7), .int .i64 2, .int .i64 0, .int .i64 0, .slice (p 8) 0 (s 8), .slice (p 9) 0 (s 9), .slice (p 10) 0 (s 10), .slice (p 11) 0 (s 11)]
abbrev bs3 (x y z : Bool) : List Value := [.bool x, .bool y, .bool z]

set_option maxRecDepth 100000 in
set_option maxHeartbeats 4000000 in
theorem eqNodeS_three (g h c d : Nat) (p q : Nat → Option Addr) (s t : Nat → Nat) (w : World) (ha : Box w g (three p s)) (hb : Box w h (three q t)) :
    Calls Try.prog 38 #[.slice (some ⟨g, 0, none⟩) 3 c, .slice (some ⟨h, 0, none⟩) 3 d] w fun e w' => e = .returned (.bool true) ∧ Below w.heap.size w w' := by
  have HA : Hid (Box w g (three p s)) := ha
  have HB : Hid (Box w h (three q t)) := hb
  have BB : Hid (Below w.heap.size w w) := Below.refl _ _
  clear ha hb
  go_enter Try.func38, Try.ntmps38
  go_wp2
  refine wp_loop_rounds 4 ?_
  rw [rounds_succ]
  have x0 : World.cell? w ⟨g, 0, none⟩ = some (.int .i64 0) := ((HA.out.next BB.out).is 0 (by simp)).1
  have y0 : World.cell? w ⟨h, 0, none⟩ = some (.int .i64 0) := ((HB.out.next BB.out).is 0 (by simp)).1
  have x1 : World.cell? w ⟨g, 1, none⟩ = some (.int .i64 0) := ((HA.out.next BB.out).is 1 (by simp)).1
  have y1 : World.cell? w ⟨h, 1, none⟩ = some (.int .i64 0) := ((HB.out.next BB.out).is 1 (by simp)).1
  have x2 : World.cell? w ⟨g, 2, none⟩ = some (.int .i64 0) := ((HA.out.next BB.out).is 2 (by simp)).1
  have y2 : World.cell? w ⟨h, 2, none⟩ = some (.int .i64 0) := ((HB.out.next BB.out).is 2 (by simp)).1
  have x3 : World.cell? w ⟨g, 3, none⟩ = some (.slice (p 0) 0 (s 0)) := ((HA.out.next BB.out).is 3 (by simp)).1
  have y3 : World.cell? w ⟨h, 3, none⟩ = some (.slice (q 0) 0 (t 0)) := ((HB.out.next BB.out).is 3 (by simp)).1
  have x4 : World.cell? w ⟨g, 4, none⟩ = some (.slice (p 1) 0 (s 1)) := ((HA.out.next BB.out).is 4 (by simp)).1
  have y4 : World.cell? w ⟨h, 4, none⟩ = some (.slice (q 1) 0 (t 1)) := ((HB.out.next BB.out).is 4 (by simp)).1
  have x5 : World.cell? w ⟨g, 5, none⟩ = some (.slice (p 2) 0 (s 2)) := ((HA.out.next BB.out).is 5 (by simp)).1
  have y5 : World.cell? w ⟨h, 5, none⟩ = some (.slice (q 2) 0 (t 2)) := ((HB.out.next BB.out).is 5 (by simp)).1
  have x6 : World.cell? w ⟨g, 6, none⟩ = some (.slice (p 3) 0 (s 3)) := ((HA.out.next BB.out).is 6 (by simp)).1
  have y6 : World.cell? w ⟨h, 6, none⟩ = some (.slice (q 3) 0 (t 3)) := ((HB.out.next BB.out).is 6 (by simp)).1
  go_wp2_with fail
  refine wp_region_held_drew (S := (fun w' => w'.cell? ⟨g, 0, none⟩ = some (.int .i64 0) ∧ w'.cell? ⟨g, 1, none⟩ = some (.int .i64 0) ∧ w'.cell? ⟨g, 2, none⟩ = some (.int .i64 0) ∧ w'.cell? ⟨g, 3, none⟩ = some (.slice (p 0) 0 (s 0)) ∧ w'.cell? ⟨g, 4, none⟩ = some (.slice (p 1) 0 (s 1)) ∧ w'.cell? ⟨g, 5, none⟩ = some (.slice (p 2) 0 (s 2)) ∧ w'.cell? ⟨g, 6, none⟩ = some (.slice (p 3) 0 (s 3)) ∧ w'.cell? ⟨h, 0, none⟩ = some (.int .i64 0) ∧ w'.cell? ⟨h, 1, none⟩ = some (.int .i64 0) ∧ w'.cell? ⟨h, 2, none⟩ = some (.int .i64 0) ∧ w'.cell? ⟨h, 3, none⟩ = some (.slice (q 0) 0 (t 0)) ∧ w'.cell? ⟨h, 4, none⟩ = some (.slice (q 1) 0 (t 1)) ∧ w'.cell? ⟨h, 5, none⟩ = some (.slice (q 2) 0 (t 2)) ∧ w'.cell? ⟨h, 6, none⟩ = some (.slice (q 3) 0 (t 3)))) (by kernel_rfl) ?_ (fun hHeld => ?_)
  · (try dsimp only)
    exact ⟨cell_next (bel_drew _) x0 (cell_lt x0), cell_next (bel_drew _) x1 (cell_lt x1), cell_next (bel_drew _) x2 (cell_lt x2), cell_next (bel_drew _) x3 (cell_lt x3), cell_next (bel_drew _) x4 (cell_lt x4), cell_next (bel_drew _) x5 (cell_lt x5), cell_next (bel_drew _) x6 (cell_lt x6), cell_next (bel_drew _) y0 (cell_lt y0), cell_next (bel_drew _) y1 (cell_lt y1), cell_next (bel_drew _) y2 (cell_lt y2), cell_next (bel_drew _) y3 (cell_lt y3), cell_next (bel_drew _) y4 (cell_lt y4), cell_next (bel_drew _) y5 (cell_lt y5), cell_next (bel_drew _) y6 (cell_lt y6)⟩
  refine wpAnyH_take (i := 0) (v := ?_) rfl (by kernel_rfl) (by kernel_rfl) (by kernel_rfl) (fun _ _ _ h => h) (Or.inl ⟨by rfl, ?_⟩) (by assumption) ?_
  rotate_left
  · intro w' hSw
    (try dsimp only at hSw)
    go_simp
    all_goals (try with_reducible rfl)
  (try simp only [Act.put, List.getElem_toArray, List.getElem_cons_zero, List.getElem_cons_succ, List.setIfInBounds_toArray, List.set_cons_zero, List.set_cons_succ])
  refine wpAnyH_take (i := 1) (v := ?_) rfl (by kernel_rfl) (by kernel_rfl) (by kernel_rfl) (fun _ _ _ h => h) (Or.inl ⟨by rfl, ?_⟩) (by assumption) ?_
  rotate_left
  · intro w' hSw
    (try dsimp only at hSw)
    go_simp
    all_goals (try with_reducible rfl)
  (try simp only [Act.put, List.getElem_toArray, List.getElem_cons_zero, List.getElem_cons_succ, List.setIfInBounds_toArray, List.set_cons_zero, List.set_cons_succ])
  refine wpAnyH_take (i := 2) (v := ?_) rfl (by kernel_rfl) (by kernel_rfl) (by kernel_rfl) (fun _ _ _ h => h) (Or.inl ⟨by rfl, ?_⟩) (by assumption) ?_
  rotate_left
  · intro w' hSw
    (try dsimp only at hSw)
    go_simp
    all_goals (try with_reducible rfl)
  (try simp only [Act.put, List.getElem_toArray, List.getElem_cons_zero, List.getElem_cons_succ, List.setIfInBounds_toArray, List.set_cons_zero, List.set_cons_succ])
  refine wpAnyH_take (i := 3) (v := ?_) rfl (by kernel_rfl) (by kernel_rfl) (by kernel_rfl) (fun _ _ _ h => h) (Or.inl ⟨by rfl, ?_⟩) (by assumption) ?_
  rotate_left
  · intro w' hSw
    (try dsimp only at hSw)
    go_simp
    all_goals (try with_reducible rfl)
  (try simp only [Act.put, List.getElem_toArray, List.getElem_cons_zero, List.getElem_cons_succ, List.setIfInBounds_toArray, List.set_cons_zero, List.set_cons_succ])
  refine wpAnyH_take (i := 4) (v := ?_) rfl (by kernel_rfl) (by kernel_rfl) (by kernel_rfl) (fun _ _ _ h => h) (Or.inl ⟨by rfl, ?_⟩) (by assumption) ?_
  rotate_left
  · intro w' hSw
    (try dsimp only at hSw)
    go_simp
    all_goals (try with_reducible rfl)
  (try simp only [Act.put, List.getElem_toArray, List.getElem_cons_zero, List.getElem_cons_succ, List.setIfInBounds_toArray, List.set_cons_zero, List.set_cons_succ])
  refine wpAnyH_take (i := 5) (v := ?_) rfl (by kernel_rfl) (by kernel_rfl) (by kernel_rfl) (fun _ _ _ h => h) (Or.inl ⟨by rfl, ?_⟩) (by assumption) ?_
  rotate_left
  · intro w' hSw
    (try dsimp only at hSw)
    go_simp
    all_goals (try with_reducible rfl)
  (try simp only [Act.put, List.getElem_toArray, List.getElem_cons_zero, List.getElem_cons_succ, List.setIfInBounds_toArray, List.set_cons_zero, List.set_cons_succ])
  refine wpAnyH_take (i := 6) (v := ?_) rfl (by kernel_rfl) (by kernel_rfl) (by kernel_rfl) (fun _ _ _ h => h) (Or.inl ⟨by rfl, ?_⟩) (by assumption) ?_
  rotate_left
  · intro w' hSw
    (try dsimp only at hSw)
    go_simp
    all_goals (try with_reducible rfl)
  (try simp only [Act.put, List.getElem_toArray, List.getElem_cons_zero, List.getElem_cons_succ, List.setIfInBounds_toArray, List.set_cons_zero, List.set_cons_succ])
  refine wpAnyH_take (i := 7) (v := ?_) rfl (by kernel_rfl) (by kernel_rfl) (by kernel_rfl) (fun _ _ _ h => h) (Or.inl ⟨by rfl, ?_⟩) (by assumption) ?_
  rotate_left
  · intro w' hSw
    (try dsimp only at hSw)
    go_simp
    all_goals (try with_reducible rfl)
  (try simp only [Act.put, List.getElem_toArray, List.getElem_cons_zero, List.getElem_cons_succ, List.setIfInBounds_toArray, List.set_cons_zero, List.set_cons_succ])
  refine wpAnyH_ready (rs := [8]) (by kernel_rfl) (by simp) ?_
  refine AllReadyH.cons rfl (fun K hK => ?_) AllReadyH.nil
  (try simp only [Act.put, List.getElem_toArray, List.getElem_cons_zero, List.getElem_cons_succ, List.setIfInBounds_toArray, List.set_cons_zero, List.set_cons_succ])
  go_simp
  go_at_call 57
  refine Calls.mono (eqNode_nil _ _ _ _ _ _ _ _ _ _ _ _ _ _ _ _ _ _ _ _) ?_
  rintro e w1 ⟨rfl, hb⟩
  replace BB : Hid (Below w.heap.size w w1) := BB.out.trans (((bel_drew _).trans hb).mono BB.out.size)
  (try simp only [])
  refine hK.out _ _ ?_ (fun hHeld' => ?_)
  · (try dsimp only)
    exact ⟨cell_next hb hHeld.1 (cell_lt hHeld.1), cell_next hb hHeld.2.1 (cell_lt hHeld.2.1), cell_next hb hHeld.2.2.1 (cell_lt hHeld.2.2.1), cell_next hb hHeld.2.2.2.1 (cell_lt hHeld.2.2.2.1), cell_next hb hHeld.2.2.2.2.1 (cell_lt hHeld.2.2.2.2.1), cell_next hb hHeld.2.2.2.2.2.1 (cell_lt hHeld.2.2.2.2.2.1), cell_next hb hHeld.2.2.2.2.2.2.1 (cell_lt hHeld.2.2.2.2.2.2.1), cell_next hb hHeld.2.2.2.2.2.2.2.1 (cell_lt hHeld.2.2.2.2.2.2.2.1), cell_next hb hHeld.2.2.2.2.2.2.2.2.1 (cell_lt hHeld.2.2.2.2.2.2.2.2.1), cell_next hb hHeld.2.2.2.2.2.2.2.2.2.1 (cell_lt hHeld.2.2.2.2.2.2.2.2.2.1), cell_next hb hHeld.2.2.2.2.2.2.2.2.2.2.1 (cell_lt hHeld.2.2.2.2.2.2.2.2.2.2.1), cell_next hb hHeld.2.2.2.2.2.2.2.2.2.2.2.1 (cell_lt hHeld.2.2.2.2.2.2.2.2.2.2.2.1), cell_next hb hHeld.2.2.2.2.2.2.2.2.2.2.2.2.1 (cell_lt hHeld.2.2.2.2.2.2.2.2.2.2.2.2.1), cell_next hb hHeld.2.2.2.2.2.2.2.2.2.2.2.2.2 (cell_lt hHeld.2.2.2.2.2.2.2.2.2.2.2.2.2)⟩
  clear hK K
  clear hHeld
  have hHeld := hHeld'
  clear hHeld'
  clear hb
  (try simp only [Act.put, List.getElem_toArray, List.getElem_cons_zero, List.getElem_cons_succ, List.setIfInBounds_toArray, List.set_cons_zero, List.set_cons_succ])
  refine wpAnyH_take (i := 9) (v := ?_) rfl (by kernel_rfl) (by kernel_rfl) (by kernel_rfl) (fun _ _ _ h => h) (Or.inl ⟨by rfl, ?_⟩) (by assumption) ?_
  rotate_left
  · intro w' hSw
    (try dsimp only at hSw)
    go_simp
    all_goals (try with_reducible rfl)
  (try simp only [Act.put, List.getElem_toArray, List.getElem_cons_zero, List.getElem_cons_succ, List.setIfInBounds_toArray, List.set_cons_zero, List.set_cons_succ])
  refine wpAnyH_done (by kernel_rfl) ?_ _
  clear hHeld x0 x1 x2 x3 x4 x5 x6 y0 y1 y2 y3 y4 y5 y6
  go_wp2
  rw [rounds_succ]
  have x0 : World.cell? w1 ⟨g, 7, none⟩ = some (.int .i64 1) := ((HA.out.next BB.out).is 7 (by simp)).1
  have y0 : World.cell? w1 ⟨h, 7, none⟩ = some (.int .i64 1) := ((HB.out.next BB.out).is 7 (by simp)).1
  have x1 : World.cell? w1 ⟨g, 8, none⟩ = some (.int .i64 0) := ((HA.out.next BB.out).is 8 (by simp)).1
  have y1 : World.cell? w1 ⟨h, 8, none⟩ = some (.int .i64 0) := ((HB.out.next BB.out).is 8 (by simp)).1
  have x2 : World.cell? w1 ⟨g, 9, none⟩ = some (.int .i64 0) := ((HA.out.next BB.out).is 9 (by simp)).1
  have y2 : World.cell? w1 ⟨h, 9, none⟩ = some (.int .i64 0) := ((HB.out.next BB.out).is 9 (by simp)).1
  have x3 : World.cell? w1 ⟨g, 10, none⟩ = some (.slice (p 4) 0 (s 4)) := ((HA.out.next BB.out).is 10 (by simp)).1
  have y3 : World.cell? w1 ⟨h, 10, none⟩ = some (.slice (q 4) 0 (t 4)) := ((HB.out.next BB.out).is 10 (by simp)).1
  have x4 : World.cell? w1 ⟨g, 11, none⟩ = some (.slice (p 5) 0 (s 5)) := ((HA.out.next BB.out).is 11 (by simp)).1
  have y4 : World.cell? w1 ⟨h, 11, none⟩ = some (.slice (q 5) 0 (t 5)) := ((HB.out.next BB.out).is 11 (by simp)).1
  have x5 : World.cell? w1 ⟨g, 12, none⟩ = some (.slice (p 6) 0 (s 6)) := ((HA.out.next BB.out).is 12 (by simp)).1
  have y5 : World.cell? w1 ⟨h, 12, none⟩ = some (.slice (q 6) 0 (t 6)) := ((HB.out.next BB.out).is 12 (by simp)).1
  have x6 : World.cell? w1 ⟨g, 13, none⟩ = some (.slice (p 7) 0 (s 7)) := ((HA.out.next BB.out).is 13 (by simp)).1
  have y6 : World.cell? w1 ⟨h, 13, none⟩ = some (.slice (q 7) 0 (t 7)) := ((HB.out.next BB.out).is 13 (by simp)).1
  go_wp2_with fail
  refine wp_region_held_drew (S := (fun w' => w'.cell? ⟨g, 7, none⟩ = some (.int .i64 1) ∧ w'.cell? ⟨g, 8, none⟩ = some (.int .i64 0) ∧ w'.cell? ⟨g, 9, none⟩ = some (.int .i64 0) ∧ w'.cell? ⟨g, 10, none⟩ = some (.slice (p 4) 0 (s 4)) ∧ w'.cell? ⟨g, 11, none⟩ = some (.slice (p 5) 0 (s 5)) ∧ w'.cell? ⟨g, 12, none⟩ = some (.slice (p 6) 0 (s 6)) ∧ w'.cell? ⟨g, 13, none⟩ = some (.slice (p 7) 0 (s 7)) ∧ w'.cell? ⟨h, 7, none⟩ = some (.int .i64 1) ∧ w'.cell? ⟨h, 8, none⟩ = some (.int .i64 0) ∧ w'.cell? ⟨h, 9, none⟩ = some (.int .i64 0) ∧ w'.cell? ⟨h, 10, none⟩ = some (.slice (q 4) 0 (t 4)) ∧ w'.cell? ⟨h, 11, none⟩ = some (.slice (q 5) 0 (t 5)) ∧ w'.cell? ⟨h, 12, none⟩ = some (.slice (q 6) 0 (t 6)) ∧ w'.cell? ⟨h, 13, none⟩ = some (.slice (q 7) 0 (t 7)))) (by kernel_rfl) ?_ (fun hHeld => ?_)
  · (try dsimp only)
    exact ⟨cell_next (bel_drew _) x0 (cell_lt x0), cell_next (bel_drew _) x1 (cell_lt x1), cell_next (bel_drew _) x2 (cell_lt x2), cell_next (bel_drew _) x3 (cell_lt x3), cell_next (bel_drew _) x4 (cell_lt x4), cell_next (bel_drew _) x5 (cell_lt x5), cell_next (bel_drew _) x6 (cell_lt x6), cell_next (bel_drew _) y0 (cell_lt y0), cell_next (bel_drew _) y1 (cell_lt y1), cell_next (bel_drew _) y2 (cell_lt y2), cell_next (bel_drew _) y3 (cell_lt y3), cell_next (bel_drew _) y4 (cell_lt y4), cell_next (bel_drew _) y5 (cell_lt y5), cell_next (bel_drew _) y6 (cell_lt y6)⟩
  refine wpAnyH_take (i := 0) (v := ?_) rfl (by kernel_rfl) (by kernel_rfl) (by kernel_rfl) (fun _ _ _ h => h) (Or.inl ⟨by rfl, ?_⟩) (by assumption) ?_
  rotate_left
  · intro w' hSw
    (try dsimp only at hSw)
    go_simp
    all_goals (try with_reducible rfl)
  (try simp only [Act.put, List.getElem_toArray, List.getElem_cons_zero, List.getElem_cons_succ, List.setIfInBounds_toArray, List.set_cons_zero, List.set_cons_succ])
  refine wpAnyH_take (i := 1) (v := ?_) rfl (by kernel_rfl) (by kernel_rfl) (by kernel_rfl) (fun _ _ _ h => h) (Or.inl ⟨by rfl, ?_⟩) (by assumption) ?_
  rotate_left
  · intro w' hSw
    (try dsimp only at hSw)
    go_simp
    all_goals (try with_reducible rfl)
  (try simp only [Act.put, List.getElem_toArray, List.getElem_cons_zero, List.getElem_cons_succ, List.setIfInBounds_toArray, List.set_cons_zero, List.set_cons_succ])
  refine wpAnyH_take (i := 2) (v := ?_) rfl (by kernel_rfl) (by kernel_rfl) (by kernel_rfl) (fun _ _ _ h => h) (Or.inl ⟨by rfl, ?_⟩) (by assumption) ?_
  rotate_left
  · intro w' hSw
    (try dsimp only at hSw)
    go_simp
    all_goals (try with_reducible rfl)
  (try simp only [Act.put, List.getElem_toArray, List.getElem_cons_zero, List.getElem_cons_succ, List.setIfInBounds_toArray, List.set_cons_zero, List.set_cons_succ])
  refine wpAnyH_take (i := 3) (v := ?_) rfl (by kernel_rfl) (by kernel_rfl) (by kernel_rfl) (fun _ _ _ h => h) (Or.inl ⟨by rfl, ?_⟩) (by assumption) ?_
  rotate_left
  · intro w' hSw
    (try dsimp only at hSw)
    go_simp
    all_goals (try with_reducible rfl)
  (try simp only [Act.put, List.getElem_toArray, List.getElem_cons_zero, List.getElem_cons_succ, List.setIfInBounds_toArray, List.set_cons_zero, List.set_cons_succ])
  refine wpAnyH_take (i := 4) (v := ?_) rfl (by kernel_rfl) (by kernel_rfl) (by kernel_rfl) (fun _ _ _ h => h) (Or.inl ⟨by rfl, ?_⟩) (by assumption) ?_
  rotate_left
  · intro w' hSw
    (try dsimp only at hSw)
    go_simp
    all_goals (try with_reducible rfl)
  (try simp only [Act.put, List.getElem_toArray, List.getElem_cons_zero, List.getElem_cons_succ, List.setIfInBounds_toArray, List.set_cons_zero, List.set_cons_succ])
  refine wpAnyH_take (i := 5) (v := ?_) rfl (by kernel_rfl) (by kernel_rfl) (by kernel_rfl) (fun _ _ _ h => h) (Or.inl ⟨by rfl, ?_⟩) (by assumption) ?_
  rotate_left
  · intro w' hSw
    (try dsimp only at hSw)
    go_simp
    all_goals (try with_reducible rfl)
  (try simp only [Act.put, List.getElem_toArray, List.getElem_cons_zero, List.getElem_cons_succ, List.setIfInBounds_toArray, List.set_cons_zero, List.set_cons_succ])
  refine wpAnyH_take (i := 6) (v := ?_) rfl (by kernel_rfl) (by kernel_rfl) (by kernel_rfl) (fun _ _ _ h => h) (Or.inl ⟨by rfl, ?_⟩) (by assumption) ?_
  rotate_left
  · intro w' hSw
    (try dsimp only at hSw)
    go_simp
    all_goals (try with_reducible rfl)
  (try simp only [Act.put, List.getElem_toArray, List.getElem_cons_zero, List.getElem_cons_succ, List.setIfInBounds_toArray, List.set_cons_zero, List.set_cons_succ])
  refine wpAnyH_take (i := 7) (v := ?_) rfl (by kernel_rfl) (by kernel_rfl) (by kernel_rfl) (fun _ _ _ h => h) (Or.inl ⟨by rfl, ?_⟩) (by assumption) ?_
  rotate_left
  · intro w' hSw
    (try dsimp only at hSw)
    go_simp
    all_goals (try with_reducible rfl)
  (try simp only [Act.put, List.getElem_toArray, List.getElem_cons_zero, List.getElem_cons_succ, List.setIfInBounds_toArray, List.set_cons_zero, List.set_cons_succ])
  refine wpAnyH_ready (rs := [8]) (by kernel_rfl) (by simp) ?_
  refine AllReadyH.cons rfl (fun K hK => ?_) AllReadyH.nil
  (try simp only [Act.put, List.getElem_toArray, List.getElem_cons_zero, List.getElem_cons_succ, List.setIfInBounds_toArray, List.set_cons_zero, List.set_cons_succ])
  go_simp
  go_at_call 57
  refine Calls.mono (eqNode_nil _ _ _ _ _ _ _ _ _ _ _ _ _ _ _ _ _ _ _ _) ?_
  rintro e w2 ⟨rfl, hb⟩
  replace BB : Hid (Below w.heap.size w w2) := BB.out.trans (((bel_drew _).trans hb).mono BB.out.size)
  (try simp only [])
  refine hK.out _ _ ?_ (fun hHeld' => ?_)
  · (try dsimp only)
    exact ⟨cell_next hb hHeld.1 (cell_lt hHeld.1), cell_next hb hHeld.2.1 (cell_lt hHeld.2.1), cell_next hb hHeld.2.2.1 (cell_lt hHeld.2.2.1), cell_next hb hHeld.2.2.2.1 (cell_lt hHeld.2.2.2.1), cell_next hb hHeld.2.2.2.2.1 (cell_lt hHeld.2.2.2.2.1), cell_next hb hHeld.2.2.2.2.2.1 (cell_lt hHeld.2.2.2.2.2.1), cell_next hb hHeld.2.2.2.2.2.2.1 (cell_lt hHeld.2.2.2.2.2.2.1), cell_next hb hHeld.2.2.2.2.2.2.2.1 (cell_lt hHeld.2.2.2.2.2.2.2.1), cell_next hb hHeld.2.2.2.2.2.2.2.2.1 (cell_lt hHeld.2.2.2.2.2.2.2.2.1), cell_next hb hHeld.2.2.2.2.2.2.2.2.2.1 (cell_lt hHeld.2.2.2.2.2.2.2.2.2.1), cell_next hb hHeld.2.2.2.2.2.2.2.2.2.2.1 (cell_lt hHeld.2.2.2.2.2.2.2.2.2.2.1), cell_next hb hHeld.2.2.2.2.2.2.2.2.2.2.2.1 (cell_lt hHeld.2.2.2.2.2.2.2.2.2.2.2.1), cell_next hb hHeld.2.2.2.2.2.2.2.2.2.2.2.2.1 (cell_lt hHeld.2.2.2.2.2.2.2.2.2.2.2.2.1), cell_next hb hHeld.2.2.2.2.2.2.2.2.2.2.2.2.2 (cell_lt hHeld.2.2.2.2.2.2.2.2.2.2.2.2.2)⟩
  clear hK K
  clear hHeld
  have hHeld := hHeld'
  clear hHeld'
  clear hb
  (try simp only [Act.put, List.getElem_toArray, List.getElem_cons_zero, List.getElem_cons_succ, List.setIfInBounds_toArray, List.set_cons_zero, List.set_cons_succ])
  refine wpAnyH_take (i := 9) (v := ?_) rfl (by kernel_rfl) (by kernel_rfl) (by kernel_rfl) (fun _ _ _ h => h) (Or.inl ⟨by rfl, ?_⟩) (by assumption) ?_
  rotate_left
  · intro w' hSw
    (try dsimp only at hSw)
    go_simp
    all_goals (try with_reducible rfl)
  (try simp only [Act.put, List.getElem_toArray, List.getElem_cons_zero, List.getElem_cons_succ, List.setIfInBounds_toArray, List.set_cons_zero, List.set_cons_succ])
  refine wpAnyH_done (by kernel_rfl) ?_ _
  clear hHeld x0 x1 x2 x3 x4 x5 x6 y0 y1 y2 y3 y4 y5 y6
  go_wp2
  rw [rounds_succ]
  have x0 : World.cell? w2 ⟨g, 14, none⟩ = some (.int .i64 2) := ((HA.out.next BB.out).is 14 (by simp)).1
  have y0 : World.cell? w2 ⟨h, 14, none⟩ = some (.int .i64 2) := ((HB.out.next BB.out).is 14 (by simp)).1
  have x1 : World.cell? w2 ⟨g, 15, none⟩ = some (.int .i64 0) := ((HA.out.next BB.out).is 15 (by simp)).1
  have y1 : World.cell? w2 ⟨h, 15, none⟩ = some (.int .i64 0) := ((HB.out.next BB.out).is 15 (by simp)).1
  have x2 : World.cell? w2 ⟨g, 16, none⟩ = some (.int .i64 0) := ((HA.out.next BB.out).is 16 (by simp)).1
  have y2 : World.cell? w2 ⟨h, 16, none⟩ = some (.int .i64 0) := ((HB.out.next BB.out).is 16 (by simp)).1
  have x3 : World.cell? w2 ⟨g, 17, none⟩ = some (.slice (p 8) 0 (s 8)) := ((HA.out.next BB.out).is 17 (by simp)).1
  have y3 : World.cell? w2 ⟨h, 17, none⟩ = some (.slice (q 8) 0 (t 8)) := ((HB.out.next BB.out).is 17 (by simp)).1
  have x4 : World.cell? w2 ⟨g, 18, none⟩ = some (.slice (p 9) 0 (s 9)) := ((HA.out.next BB.out).is 18 (by simp)).1
  have y4 : World.cell? w2 ⟨h, 18, none⟩ = some (.slice (q 9) 0 (t 9)) := ((HB.out.next BB.out).is 18 (by simp)).1
  have x5 : World.cell? w2 ⟨g, 19, none⟩ = some (.slice (p 10) 0 (s 10)) := ((HA.out.next BB.out).is 19 (by simp)).1
  have y5 : World.cell? w2 ⟨h, 19, none⟩ = some (.slice (q 10) 0 (t 10)) := ((HB.out.next BB.out).is 19 (by simp)).1
  have x6 : World.cell? w2 ⟨g, 20, none⟩ = some (.slice (p 11) 0 (s 11)) := ((HA.out.next BB.out).is 20 (by simp)).1
  have y6 : World.cell? w2 ⟨h, 20, none⟩ = some (.slice (q 11) 0 (t 11)) := ((HB.out.next BB.out).is 20 (by simp)).1
  go_wp2_with fail
  refine wp_region_held_drew (S := (fun w' => w'.cell? ⟨g, 14, none⟩ = some (.int .i64 2) ∧ w'.cell? ⟨g, 15, none⟩ = some (.int .i64 0) ∧ w'.cell? ⟨g, 16, none⟩ = some (.int .i64 0) ∧ w'.cell? ⟨g, 17, none⟩ = some (.slice (p 8) 0 (s 8)) ∧ w'.cell? ⟨g, 18, none⟩ = some (.slice (p 9) 0 (s 9)) ∧ w'.cell? ⟨g, 19, none⟩ = some (.slice (p 10) 0 (s 10)) ∧ w'.cell? ⟨g, 20, none⟩ = some (.slice (p 11) 0 (s 11)) ∧ w'.cell? ⟨h, 14, none⟩ = some (.int .i64 2) ∧ w'.cell? ⟨h, 15, none⟩ = some (.int .i64 0) ∧ w'.cell? ⟨h, 16, none⟩ = some (.int .i64 0) ∧ w'.cell? ⟨h, 17, none⟩ = some (.slice (q 8) 0 (t 8)) ∧ w'.cell? ⟨h, 18, none⟩ = some (.slice (q 9) 0 (t 9)) ∧ w'.cell? ⟨h, 19, none⟩ = some (.slice (q 10) 0 (t 10)) ∧ w'.cell? ⟨h, 20, none⟩ = some (.slice (q 11) 0 (t 11)))) (by kernel_rfl) ?_ (fun hHeld => ?_)
  · (try dsimp only)
    exact ⟨cell_next (bel_drew _) x0 (cell_lt x0), cell_next (bel_drew _) x1 (cell_lt x1), cell_next (bel_drew _) x2 (cell_lt x2), cell_next (bel_drew _) x3 (cell_lt x3), cell_next (bel_drew _) x4 (cell_lt x4), cell_next (bel_drew _) x5 (cell_lt x5), cell_next (bel_drew _) x6 (cell_lt x6), cell_next (bel_drew _) y0 (cell_lt y0), cell_next (bel_drew _) y1 (cell_lt y1), cell_next (bel_drew _) y2 (cell_lt y2), cell_next (bel_drew _) y3 (cell_lt y3), cell_next (bel_drew _) y4 (cell_lt y4), cell_next (bel_drew _) y5 (cell_lt y5), cell_next (bel_drew _) y6 (cell_lt y6)⟩
  refine wpAnyH_take (i := 0) (v := ?_) rfl (by kernel_rfl) (by kernel_rfl) (by kernel_rfl) (fun _ _ _ h => h) (Or.inl ⟨by rfl, ?_⟩) (by assumption) ?_
  rotate_left
  · intro w' hSw
    (try dsimp only at hSw)
    go_simp
    all_goals (try with_reducible rfl)
  (try simp only [Act.put, List.getElem_toArray, List.getElem_cons_zero, List.getElem_cons_succ, List.setIfInBounds_toArray, List.set_cons_zero, List.set_cons_succ])
  refine wpAnyH_take (i := 1) (v := ?_) rfl (by kernel_rfl) (by kernel_rfl) (by kernel_rfl) (fun _ _ _ h => h) (Or.inl ⟨by rfl, ?_⟩) (by assumption) ?_
  rotate_left
  · intro w' hSw
    (try dsimp only at hSw)
    go_simp
    all_goals (try with_reducible rfl)
  (try simp only [Act.put, List.getElem_toArray, List.getElem_cons_zero, List.getElem_cons_succ, List.setIfInBounds_toArray, List.set_cons_zero, List.set_cons_succ])
  refine wpAnyH_take (i := 2) (v := ?_) rfl (by kernel_rfl) (by kernel_rfl) (by kernel_rfl) (fun _ _ _ h => h) (Or.inl ⟨by rfl, ?_⟩) (by assumption) ?_
  rotate_left
  · intro w' hSw
    (try dsimp only at hSw)
    go_simp
    all_goals (try with_reducible rfl)
  (try simp only [Act.put, List.getElem_toArray, List.getElem_cons_zero, List.getElem_cons_succ, List.setIfInBounds_toArray, List.set_cons_zero, List.set_cons_succ])
  refine wpAnyH_take (i := 3) (v := ?_) rfl (by kernel_rfl) (by kernel_rfl) (by kernel_rfl) (fun _ _ _ h => h) (Or.inl ⟨by rfl, ?_⟩) (by assumption) ?_
  rotate_left
  · intro w' hSw
    (try dsimp only at hSw)
    go_simp
    all_goals (try with_reducible rfl)
  (try simp only [Act.put, List.getElem_toArray, List.getElem_cons_zero, List.getElem_cons_succ, List.setIfInBounds_toArray, List.set_cons_zero, List.set_cons_succ])
  refine wpAnyH_take (i := 4) (v := ?_) rfl (by kernel_rfl) (by kernel_rfl) (by kernel_rfl) (fun _ _ _ h => h) (Or.inl ⟨by rfl, ?_⟩) (by assumption) ?_
  rotate_left
  · intro w' hSw
    (try dsimp only at hSw)
    go_simp
    all_goals (try with_reducible rfl)
  (try simp only [Act.put, List.getElem_toArray, List.getElem_cons_zero, List.getElem_cons_succ, List.setIfInBounds_toArray, List.set_cons_zero, List.set_cons_succ])
  refine wpAnyH_take (i := 5) (v := ?_) rfl (by kernel_rfl) (by kernel_rfl) (by kernel_rfl) (fun _ _ _ h => h) (Or.inl ⟨by rfl, ?_⟩) (by assumption) ?_
  rotate_left
  · intro w' hSw
    (try dsimp only at hSw)
    go_simp
    all_goals (try with_reducible rfl)
  (try simp only [Act.put, List.getElem_toArray, List.getElem_cons_zero, List.getElem_cons_succ, List.setIfInBounds_toArray, List.set_cons_zero, List.set_cons_succ])
  refine wpAnyH_take (i := 6) (v := ?_) rfl (by kernel_rfl) (by kernel_rfl) (by kernel_rfl) (fun _ _ _ h => h) (Or.inl ⟨by rfl, ?_⟩) (by assumption) ?_
  rotate_left
  · intro w' hSw
    (try dsimp only at hSw)
    go_simp
    all_goals (try with_reducible rfl)
  (try simp only [Act.put, List.getElem_toArray, List.getElem_cons_zero, List.getElem_cons_succ, List.setIfInBounds_toArray, List.set_cons_zero, List.set_cons_succ])
  refine wpAnyH_take (i := 7) (v := ?_) rfl (by kernel_rfl) (by kernel_rfl) (by kernel_rfl) (fun _ _ _ h => h) (Or.inl ⟨by rfl, ?_⟩) (by assumption) ?_
  rotate_left
  · intro w' hSw
    (try dsimp only at hSw)
    go_simp
    all_goals (try with_reducible rfl)
  (try simp only [Act.put, List.getElem_toArray, List.getElem_cons_zero, List.getElem_cons_succ, List.setIfInBounds_toArray, List.set_cons_zero, List.set_cons_succ])
  refine wpAnyH_ready (rs := [8]) (by kernel_rfl) (by simp) ?_
  refine AllReadyH.cons rfl (fun K hK => ?_) AllReadyH.nil
  (try simp only [Act.put, List.getElem_toArray, List.getElem_cons_zero, List.getElem_cons_succ, List.setIfInBounds_toArray, List.set_cons_zero, List.set_cons_succ])
  go_simp
  go_at_call 57
  refine Calls.mono (eqNode_nil _ _ _ _ _ _ _ _ _ _ _ _ _ _ _ _ _ _ _ _) ?_
  rintro e w3 ⟨rfl, hb⟩
  replace BB : Hid (Below w.heap.size w w3) := BB.out.trans (((bel_drew _).trans hb).mono BB.out.size)
  (try simp only [])
  refine hK.out _ _ ?_ (fun hHeld' => ?_)
  · (try dsimp only)
    exact ⟨cell_next hb hHeld.1 (cell_lt hHeld.1), cell_next hb hHeld.2.1 (cell_lt hHeld.2.1), cell_next hb hHeld.2.2.1 (cell_lt hHeld.2.2.1), cell_next hb hHeld.2.2.2.1 (cell_lt hHeld.2.2.2.1), cell_next hb hHeld.2.2.2.2.1 (cell_lt hHeld.2.2.2.2.1), cell_next hb hHeld.2.2.2.2.2.1 (cell_lt hHeld.2.2.2.2.2.1), cell_next hb hHeld.2.2.2.2.2.2.1 (cell_lt hHeld.2.2.2.2.2.2.1), cell_next hb hHeld.2.2.2.2.2.2.2.1 (cell_lt hHeld.2.2.2.2.2.2.2.1), cell_next hb hHeld.2.2.2.2.2.2.2.2.1 (cell_lt hHeld.2.2.2.2.2.2.2.2.1), cell_next hb hHeld.2.2.2.2.2.2.2.2.2.1 (cell_lt hHeld.2.2.2.2.2.2.2.2.2.1), cell_next hb hHeld.2.2.2.2.2.2.2.2.2.2.1 (cell_lt hHeld.2.2.2.2.2.2.2.2.2.2.1), cell_next hb hHeld.2.2.2.2.2.2.2.2.2.2.2.1 (cell_lt hHeld.2.2.2.2.2.2.2.2.2.2.2.1), cell_next hb hHeld.2.2.2.2.2.2.2.2.2.2.2.2.1 (cell_lt hHeld.2.2.2.2.2.2.2.2.2.2.2.2.1), cell_next hb hHeld.2.2.2.2.2.2.2.2.2.2.2.2.2 (cell_lt hHeld.2.2.2.2.2.2.2.2.2.2.2.2.2)⟩
  clear hK K
  clear hHeld
  have hHeld := hHeld'
  clear hHeld'
  clear hb
  (try simp only [Act.put, List.getElem_toArray, List.getElem_cons_zero, List.getElem_cons_succ, List.setIfInBounds_toArray, List.set_cons_zero, List.set_cons_succ])
  refine wpAnyH_take (i := 9) (v := ?_) rfl (by kernel_rfl) (by kernel_rfl) (by kernel_rfl) (fun _ _ _ h => h) (Or.inl ⟨by rfl, ?_⟩) (by assumption) ?_
  rotate_left
  · intro w' hSw
    (try dsimp only at hSw)
    go_simp
    all_goals (try with_reducible rfl)
  (try simp only [Act.put, List.getElem_toArray, List.getElem_cons_zero, List.getElem_cons_succ, List.setIfInBounds_toArray, List.set_cons_zero, List.set_cons_succ])
  refine wpAnyH_done (by kernel_rfl) ?_ _
  clear hHeld x0 x1 x2 x3 x4 x5 x6 y0 y1 y2 y3 y4 y5 y6
  go_wp2
  rw [rounds_succ]
  go_wp2
  go_ret
  exact ⟨rfl, BB.out⟩

set_option maxHeartbeats 2000000 in
theorem eqBoolS_three (g h c d : Nat) (x y z : Bool) (w : World) (ha : Box w g (bs3 x y z)) (hb : Box w h (bs3 x y z)) :
    Calls Try.prog 39 #[.slice (some ⟨g, 0, none⟩) 3 c, .slice (some ⟨h, 0, none⟩) 3 d] w fun e w' => e = .returned (.bool true) ∧ Below w.heap.size w w' := by
  obtain ⟨a0, a1, a2⟩ := ha.c3
  obtain ⟨b0, b1, b2⟩ := hb.c3
  clear ha hb
  go_enter Try.func39, Try.ntmps39
  go_wp2
  refine wp_loop_rounds 4 ?_
  repeat (rw [rounds_succ]; go_wp2; (try (go_quiet (fail); go_wp2)))
  go_ret
  refine ⟨rfl, ?_⟩
  repeat (first | exact Below.refl _ _ | refine Below.drew ?_ | refine below_drewN ?_ _ | refine Below.alloc ?_ (by first | (simp; done) | (simp; omega)) _ | refine Below.setCell ?_ (by first | (simp; done) | (simp; omega)) _)
end Go.Proofs.Ytagmpoakakbeaaa

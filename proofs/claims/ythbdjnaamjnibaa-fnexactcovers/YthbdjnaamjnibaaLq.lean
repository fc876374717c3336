/- The law of Covers. -/
import Derived.Test.YthbdjnaamjnibaaRows
import Derived.WalkKit
import Derived.WalkSpells
import Derived.WalkLawsBesides
import Derived.Deep.QuietTactic
import Derived.BigQuiet
import Derived.Deep.RegionHeld3
import Derived.Test.YthbdjnaamjnibaaCb
import Derived.Test.YthbdjnaamjnibaaSo
import Derived.LoopN
namespace Go.Proofs.Ythbdjnaamjnibaa
open Go.RowKit
set_option linter.unusedSimpArgs false
set_option linter.unusedVariables false

set_option maxHeartbeats 4000000 in
theorem law_covers_small (cap cp : Nat) (ao bo : Option Addr) (l l2 : List Sib) (a b c x y z : Int) (w : World) (hl : l.length + l2.length ≤ 1048576) (hr0 : SibRow w ao l) (hs0 : SibRow w bo l2) :
    Calls Try.prog 4 #[.agg #[.slice ao l.length cap, .int .i64 a, .int .i64 b, .int .i64 c], .agg #[.slice bo l2.length cp, .int .i64 x, .int .i64 y, .int .i64 z]] w fun e w' => e = .returned (.bool true) ∧ Below w.heap.size w w' := by
  obtain ⟨k0, hO⟩ := bool_of (OkP l a b c)
  obtain ⟨k1, hP⟩ := bool_of (OkP l2 x y z)
  obtain ⟨r, code, hJ⟩ := cr_of k0 k1 l l2 a b c x y z
  have hif : (if (l.length : Int) ≤ 1048576 then 1048576 - (l.length : Int) else -1) = 1048576 - (l.length : Int) := if_pos (by omega)
  have hng : ¬ 1048576 - (l.length : Int) < 0 := by omega
  have hif2 : (if (l2.length : Int) ≤ 1048576 - (l.length : Int) then 1048576 - (l.length : Int) - (l2.length : Int) else -1) = 1048576 - (l.length : Int) - (l2.length : Int) := if_pos (by omega)
  have hng2 : ¬ 1048576 - (l.length : Int) - (l2.length : Int) < 0 := by omega
  have HB : Hid (Below w.heap.size w w) := Below.refl _ _
  have RA : Hid (SibRow w ao l) := hr0
  have RB : Hid (SibRow w bo l2) := hs0
  have hm : (l.length : Int) ≤ 1048576 := by omega
  have hm2 : (l2.length : Int) ≤ 1048576 := by omega
  clear hr0 hs0
  go_enter Try.func4, Try.ntmps4
  go_wp2_with fail
  refine (szObj_any cap ao l a b c 1048576 _ (by omega) (by omega) (by omega)).mono ?_
  rintro e w1 ⟨rfl, hb⟩
  have BA := c4_next (c4_next box_new (bel_alloc _ _) lt_new) hb (lt_next lt_new (bel_alloc _ _))
  have LA := lt_next (lt_next lt_new (bel_alloc _ _)) hb
  have BB := c4_next box_new hb lt_new
  have LB := lt_next lt_new hb
  replace RA := row_next (row_next (row_next RA (bel_alloc _ _)) (bel_alloc _ _)) hb
  replace RB := row_next (row_next (row_next RB (bel_alloc _ _)) (bel_alloc _ _)) hb
  replace HB := bel_next (bel_next (bel_next HB (bel_alloc _ _)) (bel_alloc _ _)) hb
  simp only [World.size_alloc] at BB LB
  clear hb
  rw [hif]
  obtain ⟨bA0, bA1, bA2, bA3⟩ := BA.out
  obtain ⟨bB0, bB1, bB2, bB3⟩ := BB.out
  go_wp2_with fail
  clear bA0 bA1 bA2 bA3
  clear bB0 bB1 bB2 bB3
  refine (szObj_any cp bo l2 x y z _ _ (by omega) (by omega) (by omega)).mono ?_
  rintro e w2 ⟨rfl, hb⟩
  replace BA := c4_next BA hb LA
  replace BB := c4_next BB hb LB
  replace LA := lt_next LA hb
  replace LB := lt_next LB hb
  replace RA := row_next RA hb
  replace RB := row_next RB hb
  replace HB := bel_next HB hb
  clear hb
  rw [hif2]
  go_wp2_with fail
  refine wp_region_held_drew (S := (fun w' => (w'.cell? ⟨w.heap.size, 0, none⟩ = some (Value.slice ao l.length cap) ∧ w'.cell? ⟨w.heap.size, 1, none⟩ = some (.int .i64 a) ∧ w'.cell? ⟨w.heap.size, 2, none⟩ = some (.int .i64 b) ∧ w'.cell? ⟨w.heap.size, 3, none⟩ = some (.int .i64 c)) ∧ (w'.cell? ⟨w.heap.size + 1, 0, none⟩ = some (Value.slice bo l2.length cp) ∧ w'.cell? ⟨w.heap.size + 1, 1, none⟩ = some (.int .i64 x) ∧ w'.cell? ⟨w.heap.size + 1, 2, none⟩ = some (.int .i64 y) ∧ w'.cell? ⟨w.heap.size + 1, 3, none⟩ = some (.int .i64 z)) ∧ (w.heap.size < w'.heap.size) ∧ (w.heap.size + 1 < w'.heap.size) ∧ SibRow w' (ao) l ∧ SibRow w' (bo) l2 ∧ Below w.heap.size w w')) (by kernel_rfl) ?_ (fun hHeld => ?_)
  · (try dsimp only)
    exact ⟨BA.out, BB.out, LA.out, LB.out, RA.out, RB.out, (bel_next HB (bel_drew _)).out⟩
  refine wpAnyH_take (i := 0) (v := ?_) rfl (by kernel_rfl) (by kernel_rfl) (by kernel_rfl) (fun _ _ _ h => h) (Or.inl ⟨by rfl, ?_⟩) (by assumption) ?_
  rotate_left
  · intro w' hSw
    (try dsimp only at hSw)
    go_simp
    all_goals (try with_reducible rfl)
  (try simp only [Act.put, List.getElem_toArray, List.getElem_cons_zero, List.getElem_cons_succ, List.setIfInBounds_toArray, List.set_cons_zero, List.set_cons_succ])
  refine wpAnyH_take (i := 2) (v := ?_) rfl (by kernel_rfl) (by kernel_rfl) (by kernel_rfl) (fun _ _ _ h => h) (Or.inl ⟨by rfl, ?_⟩) (by assumption) ?_
  rotate_left
  · intro w' hSw
    (try dsimp only at hSw)
    go_simp
    all_goals (try with_reducible rfl)
  (try simp only [Act.put, List.getElem_toArray, List.getElem_cons_zero, List.getElem_cons_succ, List.setIfInBounds_toArray, List.set_cons_zero, List.set_cons_succ])
  refine wpAnyH_ready (rs := [1]) (by kernel_rfl) (by simp) ?_
  refine AllReadyH.cons rfl (fun K hK => ?_) AllReadyH.nil
  (try simp only [Act.put, List.getElem_toArray, List.getElem_cons_zero, List.getElem_cons_succ, List.setIfInBounds_toArray, List.set_cons_zero, List.set_cons_succ])
  go_simp
  (go_at_call 8; refine (toObj_any cap ao l a b c _ hm hHeld.2.2.2.2.1).mono ?_; rintro e w3 ⟨g1, rfl, hb, hg, hG, hT, hS⟩; have R1 := row_of_at hS; clear hg hG hT hS)
  (try simp only [])
  refine hK.out _ _ ?_ (fun hHeld' => ?_)
  · (try dsimp only)
    exact ⟨c4_next hHeld.1 hb hHeld.2.2.1, c4_next hHeld.2.1 hb hHeld.2.2.2.1, lt_next hHeld.2.2.1 hb, lt_next hHeld.2.2.2.1 hb, row_next hHeld.2.2.2.2.1 hb, row_next hHeld.2.2.2.2.2.1 hb, bel_next hHeld.2.2.2.2.2.2 hb⟩
  clear hK K
  clear hHeld
  have hHeld := hHeld'
  clear hHeld'
  clear hb
  (try simp only [Act.put, List.getElem_toArray, List.getElem_cons_zero, List.getElem_cons_succ, List.setIfInBounds_toArray, List.set_cons_zero, List.set_cons_succ])
  refine wpAnyH_ready (rs := [3]) (by kernel_rfl) (by simp) ?_
  refine AllReadyH.cons rfl (fun K hK => ?_) AllReadyH.nil
  (try simp only [Act.put, List.getElem_toArray, List.getElem_cons_zero, List.getElem_cons_succ, List.setIfInBounds_toArray, List.set_cons_zero, List.set_cons_succ])
  go_simp
  (go_at_call 8; refine (toObj_any cp bo l2 x y z _ hm2 hHeld.2.2.2.2.2.1).mono ?_; rintro e w4 ⟨g2, rfl, hb, hg, hG, hT, hS⟩; have R2 := row_of_at hS; replace R1 := row_next R1 hb; clear hg hG hT hS)
  (try simp only [])
  refine hK.out _ _ ?_ (fun hHeld' => ?_)
  · (try dsimp only)
    exact ⟨c4_next hHeld.1 hb hHeld.2.2.1, c4_next hHeld.2.1 hb hHeld.2.2.2.1, lt_next hHeld.2.2.1 hb, lt_next hHeld.2.2.2.1 hb, row_next hHeld.2.2.2.2.1 hb, row_next hHeld.2.2.2.2.2.1 hb, bel_next hHeld.2.2.2.2.2.2 hb⟩
  clear hK K
  clear hHeld
  have hHeld := hHeld'
  clear hHeld'
  clear hb
  (try simp only [Act.put, List.getElem_toArray, List.getElem_cons_zero, List.getElem_cons_succ, List.setIfInBounds_toArray, List.set_cons_zero, List.set_cons_succ])
  refine wpAnyH_ready (rs := [4]) (by kernel_rfl) (by simp) ?_
  refine AllReadyH.cons rfl (fun K hK => ?_) AllReadyH.nil
  (try simp only [Act.put, List.getElem_toArray, List.getElem_cons_zero, List.getElem_cons_succ, List.setIfInBounds_toArray, List.set_cons_zero, List.set_cons_succ])
  go_simp
  (go_at_call 13; refine (specCovers_any l.length l2.length _ _ l l2 a b c x y z k0 k1 hO hP r code hJ _ hm hm2 (Nat.le_refl _) R1.out R2.out).mono ?_; rintro e w5 ⟨rfl, hb⟩)
  (try simp only [])
  refine hK.out _ _ ?_ (fun hHeld' => ?_)
  · (try dsimp only)
    exact ⟨c4_next hHeld.1 hb hHeld.2.2.1, c4_next hHeld.2.1 hb hHeld.2.2.2.1, lt_next hHeld.2.2.1 hb, lt_next hHeld.2.2.2.1 hb, row_next hHeld.2.2.2.2.1 hb, row_next hHeld.2.2.2.2.2.1 hb, bel_next hHeld.2.2.2.2.2.2 hb⟩
  clear hK K
  clear hHeld
  have hHeld := hHeld'
  clear hHeld'
  clear hb R1 R2
  (try simp only [Act.put, List.getElem_toArray, List.getElem_cons_zero, List.getElem_cons_succ, List.setIfInBounds_toArray, List.set_cons_zero, List.set_cons_succ])
  refine wpAnyH_take (i := 5) (v := ?_) rfl (by kernel_rfl) (by kernel_rfl) (by kernel_rfl) (fun _ _ _ h => h) (Or.inl ⟨by rfl, ?_⟩) (by assumption) ?_
  rotate_left
  · intro w' hSw
    (try dsimp only at hSw)
    go_simp
    all_goals (try with_reducible rfl)
  (try simp only [Act.put, List.getElem_toArray, List.getElem_cons_zero, List.getElem_cons_succ, List.setIfInBounds_toArray, List.set_cons_zero, List.set_cons_succ])
  refine wpAnyH_take (i := 6) (v := ?_) rfl (by kernel_rfl) (by kernel_rfl) (by kernel_rfl) (fun _ _ _ h => h) (Or.inl ⟨by rfl, ?_⟩) (by assumption) ?_
  rotate_left
  · intro w' hSw
    (try dsimp only at hSw)
    go_simp
    all_goals (try with_reducible rfl)
  (try simp only [Act.put, List.getElem_toArray, List.getElem_cons_zero, List.getElem_cons_succ, List.setIfInBounds_toArray, List.set_cons_zero, List.set_cons_succ])
  refine wpAnyH_take (i := 7) (v := ?_) rfl (by kernel_rfl) (by kernel_rfl) (by kernel_rfl) (fun _ _ _ h => h) (Or.inl ⟨by rfl, ?_⟩) (by assumption) ?_
  rotate_left
  · intro w' hSw
    (try dsimp only at hSw)
    go_simp
    all_goals (try with_reducible rfl)
  (try simp only [Act.put, List.getElem_toArray, List.getElem_cons_zero, List.getElem_cons_succ, List.setIfInBounds_toArray, List.set_cons_zero, List.set_cons_succ])
  refine wpAnyH_take (i := 8) (v := ?_) rfl (by kernel_rfl) (by kernel_rfl) (by kernel_rfl) (fun _ _ _ h => h) (Or.inl ⟨by rfl, ?_⟩) (by assumption) ?_
  rotate_left
  · intro w' hSw
    (try dsimp only at hSw)
    go_simp
    all_goals (try with_reducible rfl)
  (try simp only [Act.put, List.getElem_toArray, List.getElem_cons_zero, List.getElem_cons_succ, List.setIfInBounds_toArray, List.set_cons_zero, List.set_cons_succ])
  refine wpAnyH_take (i := 9) (v := ?_) rfl (by kernel_rfl) (by kernel_rfl) (by kernel_rfl) (fun _ _ _ h => h) (Or.inl ⟨by rfl, ?_⟩) (by assumption) ?_
  rotate_left
  · intro w' hSw
    (try dsimp only at hSw)
    go_simp
    all_goals (try with_reducible rfl)
  (try simp only [Act.put, List.getElem_toArray, List.getElem_cons_zero, List.getElem_cons_succ, List.setIfInBounds_toArray, List.set_cons_zero, List.set_cons_succ])
  refine wpAnyH_done (by kernel_rfl) ?_ _
  replace BA : Hid _ := hHeld.1
  replace BB : Hid _ := hHeld.2.1
  replace LA : Hid _ := hHeld.2.2.1
  replace LB : Hid _ := hHeld.2.2.2.1
  replace RA : Hid _ := hHeld.2.2.2.2.1
  replace RB : Hid _ := hHeld.2.2.2.2.2.1
  replace HB : Hid _ := hHeld.2.2.2.2.2.2
  clear hHeld
  obtain ⟨bA0, bA1, bA2, bA3⟩ := BA.out
  go_wp2_with fail
  clear bA0 bA1 bA2 bA3
  refine (toObj_any cap ao l a b c _ hm RA.out).mono ?_
  rintro e w6 ⟨gx, rfl, hb, hg, hG, hT, hS⟩
  replace BA := c4_next BA hb LA
  replace BB := c4_next BB hb LB
  replace LA := lt_next LA hb
  replace LB := lt_next LB hb
  replace RA := row_next RA hb
  replace RB := row_next RB hb
  replace HB := bel_next HB hb
  have RxA := row_of_at hS
  clear hb hg hG hT hS
  obtain ⟨bB0, bB1, bB2, bB3⟩ := BB.out
  have bB0' : ∀ o, (w6.alloc o).cell? ⟨w.heap.size + 1, 0, none⟩ = _ := fun o => box_alloc bB0 LB.out
  have bB1' : ∀ o, (w6.alloc o).cell? ⟨w.heap.size + 1, 1, none⟩ = _ := fun o => box_alloc bB1 LB.out
  have bB2' : ∀ o, (w6.alloc o).cell? ⟨w.heap.size + 1, 2, none⟩ = _ := fun o => box_alloc bB2 LB.out
  have bB3' : ∀ o, (w6.alloc o).cell? ⟨w.heap.size + 1, 3, none⟩ = _ := fun o => box_alloc bB3 LB.out
  clear bB0 bB1 bB2 bB3
  go_wp2_with fail
  clear bB0' bB1' bB2' bB3'
  refine (toObj_any cp bo l2 x y z _ hm2 (row_next RB (bel_alloc _ _)).out).mono ?_
  rintro e w7 ⟨gy, rfl, hb, hg, hG, hT, hS⟩
  have BxA := c4_next box_new hb lt_new
  have LxA := lt_next lt_new hb
  replace BA := c4_next (c4_next BA (bel_alloc _ _) LA) hb (lt_next LA (bel_alloc _ _))
  replace BB := c4_next (c4_next BB (bel_alloc _ _) LB) hb (lt_next LB (bel_alloc _ _))
  replace LA := lt_next (lt_next LA (bel_alloc _ _)) hb
  replace LB := lt_next (lt_next LB (bel_alloc _ _)) hb
  replace RA := row_next (row_next RA (bel_alloc _ _)) hb
  replace RB := row_next (row_next RB (bel_alloc _ _)) hb
  replace RxA := row_next (row_next RxA (bel_alloc _ _)) hb
  replace HB := bel_next (bel_next HB (bel_alloc _ _)) hb
  have RxB := row_of_at hS
  clear hb hg hG hT hS
  obtain ⟨bxA0, bxA1, bxA2, bxA3⟩ := BxA.out
  have bxA0' : ∀ o, (w7.alloc o).cell? ⟨w6.heap.size, 0, none⟩ = _ := fun o => box_alloc bxA0 LxA.out
  have bxA1' : ∀ o, (w7.alloc o).cell? ⟨w6.heap.size, 1, none⟩ = _ := fun o => box_alloc bxA1 LxA.out
  have bxA2' : ∀ o, (w7.alloc o).cell? ⟨w6.heap.size, 2, none⟩ = _ := fun o => box_alloc bxA2 LxA.out
  have bxA3' : ∀ o, (w7.alloc o).cell? ⟨w6.heap.size, 3, none⟩ = _ := fun o => box_alloc bxA3 LxA.out
  clear bxA0 bxA1 bxA2 bxA3
  go_wp2_with fail
  clear bxA0' bxA1' bxA2' bxA3'
  refine (implCovers_any l.length l2.length _ _ l l2 a b c x y z k0 k1 hO hP r code hJ _ hm hm2 (Nat.le_refl _) (row_next RxA (bel_alloc _ _)).out (row_next RxB (bel_alloc _ _)).out).mono ?_
  rintro e w8 ⟨rfl, hb⟩
  have BxB := c4_next box_new hb lt_new
  have LxB := lt_next lt_new hb
  replace BA := c4_next (c4_next BA (bel_alloc _ _) LA) hb (lt_next LA (bel_alloc _ _))
  replace BB := c4_next (c4_next BB (bel_alloc _ _) LB) hb (lt_next LB (bel_alloc _ _))
  replace BxA := c4_next (c4_next BxA (bel_alloc _ _) LxA) hb (lt_next LxA (bel_alloc _ _))
  replace LA := lt_next (lt_next LA (bel_alloc _ _)) hb
  replace LB := lt_next (lt_next LB (bel_alloc _ _)) hb
  replace LxA := lt_next (lt_next LxA (bel_alloc _ _)) hb
  replace RA := row_next (row_next RA (bel_alloc _ _)) hb
  replace RB := row_next (row_next RB (bel_alloc _ _)) hb
  replace RxA := row_next (row_next RxA (bel_alloc _ _)) hb
  replace RxB := row_next (row_next RxB (bel_alloc _ _)) hb
  replace HB := bel_next (bel_next HB (bel_alloc _ _)) hb
  clear hb hO hP hJ
  go_wp2_with fail
  refine wp_region_held_drew (S := (fun w' => (w'.cell? ⟨w.heap.size, 0, none⟩ = some (Value.slice ao l.length cap) ∧ w'.cell? ⟨w.heap.size, 1, none⟩ = some (.int .i64 a) ∧ w'.cell? ⟨w.heap.size, 2, none⟩ = some (.int .i64 b) ∧ w'.cell? ⟨w.heap.size, 3, none⟩ = some (.int .i64 c)) ∧ (w'.cell? ⟨w.heap.size + 1, 0, none⟩ = some (Value.slice bo l2.length cp) ∧ w'.cell? ⟨w.heap.size + 1, 1, none⟩ = some (.int .i64 x) ∧ w'.cell? ⟨w.heap.size + 1, 2, none⟩ = some (.int .i64 y) ∧ w'.cell? ⟨w.heap.size + 1, 3, none⟩ = some (.int .i64 z)) ∧ (w'.cell? ⟨w6.heap.size, 0, none⟩ = some (Value.slice (some ⟨gx, 0, none⟩) l.length l.length) ∧ w'.cell? ⟨w6.heap.size, 1, none⟩ = some (.int .i64 a) ∧ w'.cell? ⟨w6.heap.size, 2, none⟩ = some (.int .i64 b) ∧ w'.cell? ⟨w6.heap.size, 3, none⟩ = some (.int .i64 c)) ∧ (w'.cell? ⟨w7.heap.size, 0, none⟩ = some (Value.slice (some ⟨gy, 0, none⟩) l2.length l2.length) ∧ w'.cell? ⟨w7.heap.size, 1, none⟩ = some (.int .i64 x) ∧ w'.cell? ⟨w7.heap.size, 2, none⟩ = some (.int .i64 y) ∧ w'.cell? ⟨w7.heap.size, 3, none⟩ = some (.int .i64 z)) ∧ (w.heap.size < w'.heap.size) ∧ (w.heap.size + 1 < w'.heap.size) ∧ (w6.heap.size < w'.heap.size) ∧ (w7.heap.size < w'.heap.size) ∧ SibRow w' (ao) l ∧ SibRow w' (bo) l2 ∧ SibRow w' (some ⟨gx, 0, none⟩) l ∧ SibRow w' (some ⟨gy, 0, none⟩) l2 ∧ Below w.heap.size w w')) (by kernel_rfl) ?_ (fun hHeld => ?_)
  · (try dsimp only)
    exact ⟨BA.out, BB.out, BxA.out, BxB.out, LA.out, LB.out, LxA.out, LxB.out, RA.out, RB.out, RxA.out, RxB.out, (bel_next HB (bel_drew _)).out⟩
  refine wpAnyH_take (i := 0) (v := ?_) rfl (by kernel_rfl) (by kernel_rfl) (by kernel_rfl) (fun _ _ _ h => h) (Or.inl ⟨by rfl, ?_⟩) (by assumption) ?_
  rotate_left
  · intro w' hSw
    (try dsimp only at hSw)
    go_simp
    all_goals (try with_reducible rfl)
  (try simp only [Act.put, List.getElem_toArray, List.getElem_cons_zero, List.getElem_cons_succ, List.setIfInBounds_toArray, List.set_cons_zero, List.set_cons_succ])
  refine wpAnyH_take (i := 1) (v := ?_) rfl (by kernel_rfl) (by kernel_rfl) (by kernel_rfl) (fun _ _ _ h => h) (Or.inl ⟨by rfl, ?_⟩) (by assumption) ?_
  rotate_left
  · intro w' hSw
    (try dsimp only at hSw)
    go_simp
    all_goals (try with_reducible rfl)
  (try simp only [Act.put, List.getElem_toArray, List.getElem_cons_zero, List.getElem_cons_succ, List.setIfInBounds_toArray, List.set_cons_zero, List.set_cons_succ])
  refine wpAnyH_ready (rs := [2]) (by kernel_rfl) (by simp) ?_
  refine AllReadyH.cons rfl (fun K hK => ?_) AllReadyH.nil
  (try simp only [Act.put, List.getElem_toArray, List.getElem_cons_zero, List.getElem_cons_succ, List.setIfInBounds_toArray, List.set_cons_zero, List.set_cons_succ])
  go_simp
  (go_at_call 8; refine (toObj_any cap ao l a b c _ hm hHeld.2.2.2.2.2.2.2.2.1).mono ?_; rintro e w9 ⟨g9, rfl, hb, hg, hG, hT, hS⟩; have RT := row_of_at hS; clear hg hG hT hS)
  (try simp only [])
  refine hK.out _ _ ?_ (fun hHeld' => ?_)
  · (try dsimp only)
    exact ⟨c4_next hHeld.1 hb hHeld.2.2.2.2.1, c4_next hHeld.2.1 hb hHeld.2.2.2.2.2.1, c4_next hHeld.2.2.1 hb hHeld.2.2.2.2.2.2.1, c4_next hHeld.2.2.2.1 hb hHeld.2.2.2.2.2.2.2.1, lt_next hHeld.2.2.2.2.1 hb, lt_next hHeld.2.2.2.2.2.1 hb, lt_next hHeld.2.2.2.2.2.2.1 hb, lt_next hHeld.2.2.2.2.2.2.2.1 hb, row_next hHeld.2.2.2.2.2.2.2.2.1 hb, row_next hHeld.2.2.2.2.2.2.2.2.2.1 hb, row_next hHeld.2.2.2.2.2.2.2.2.2.2.1 hb, row_next hHeld.2.2.2.2.2.2.2.2.2.2.2.1 hb, bel_next hHeld.2.2.2.2.2.2.2.2.2.2.2.2 hb⟩
  clear hK K
  clear hHeld
  have hHeld := hHeld'
  clear hHeld'
  clear hb
  (try simp only [Act.put, List.getElem_toArray, List.getElem_cons_zero, List.getElem_cons_succ, List.setIfInBounds_toArray, List.set_cons_zero, List.set_cons_succ])
  refine wpAnyH_ready (rs := [3]) (by kernel_rfl) (by simp) ?_
  refine AllReadyH.cons rfl (fun K hK => ?_) AllReadyH.nil
  (try simp only [Act.put, List.getElem_toArray, List.getElem_cons_zero, List.getElem_cons_succ, List.setIfInBounds_toArray, List.set_cons_zero, List.set_cons_succ])
  go_simp
  (go_at_call 10; refine (eqObj_same l.length l.length _ _ l a b c _ hm hHeld.2.2.2.2.2.2.2.2.2.2.1 RT.out).mono ?_; rintro e w10 ⟨rfl, hb⟩)
  (try simp only [])
  refine hK.out _ _ ?_ (fun hHeld' => ?_)
  · (try dsimp only)
    exact ⟨c4_next hHeld.1 hb hHeld.2.2.2.2.1, c4_next hHeld.2.1 hb hHeld.2.2.2.2.2.1, c4_next hHeld.2.2.1 hb hHeld.2.2.2.2.2.2.1, c4_next hHeld.2.2.2.1 hb hHeld.2.2.2.2.2.2.2.1, lt_next hHeld.2.2.2.2.1 hb, lt_next hHeld.2.2.2.2.2.1 hb, lt_next hHeld.2.2.2.2.2.2.1 hb, lt_next hHeld.2.2.2.2.2.2.2.1 hb, row_next hHeld.2.2.2.2.2.2.2.2.1 hb, row_next hHeld.2.2.2.2.2.2.2.2.2.1 hb, row_next hHeld.2.2.2.2.2.2.2.2.2.2.1 hb, row_next hHeld.2.2.2.2.2.2.2.2.2.2.2.1 hb, bel_next hHeld.2.2.2.2.2.2.2.2.2.2.2.2 hb⟩
  clear hK K
  clear hHeld
  have hHeld := hHeld'
  clear hHeld'
  clear hb
  (try simp only [Act.put, List.getElem_toArray, List.getElem_cons_zero, List.getElem_cons_succ, List.setIfInBounds_toArray, List.set_cons_zero, List.set_cons_succ])
  refine wpAnyH_take (i := 4) (v := ?_) rfl (by kernel_rfl) (by kernel_rfl) (by kernel_rfl) (fun _ _ _ h => h) (Or.inl ⟨by rfl, ?_⟩) (by assumption) ?_
  rotate_left
  · intro w' hSw
    (try dsimp only at hSw)
    go_simp
    all_goals (try with_reducible rfl)
  (try simp only [Act.put, List.getElem_toArray, List.getElem_cons_zero, List.getElem_cons_succ, List.setIfInBounds_toArray, List.set_cons_zero, List.set_cons_succ])
  refine wpAnyH_done (by kernel_rfl) ?_ _
  replace BA : Hid _ := hHeld.1
  replace BB : Hid _ := hHeld.2.1
  replace BxA : Hid _ := hHeld.2.2.1
  replace BxB : Hid _ := hHeld.2.2.2.1
  replace LA : Hid _ := hHeld.2.2.2.2.1
  replace LB : Hid _ := hHeld.2.2.2.2.2.1
  replace LxA : Hid _ := hHeld.2.2.2.2.2.2.1
  replace LxB : Hid _ := hHeld.2.2.2.2.2.2.2.1
  replace RA : Hid _ := hHeld.2.2.2.2.2.2.2.2.1
  replace RB : Hid _ := hHeld.2.2.2.2.2.2.2.2.2.1
  replace RxA : Hid _ := hHeld.2.2.2.2.2.2.2.2.2.2.1
  replace RxB : Hid _ := hHeld.2.2.2.2.2.2.2.2.2.2.2.1
  replace HB : Hid _ := hHeld.2.2.2.2.2.2.2.2.2.2.2.2
  clear hHeld
  clear RT
  go_wp2_with fail
  refine wp_region_held_drew (S := (fun w' => (w'.cell? ⟨w.heap.size, 0, none⟩ = some (Value.slice ao l.length cap) ∧ w'.cell? ⟨w.heap.size, 1, none⟩ = some (.int .i64 a) ∧ w'.cell? ⟨w.heap.size, 2, none⟩ = some (.int .i64 b) ∧ w'.cell? ⟨w.heap.size, 3, none⟩ = some (.int .i64 c)) ∧ (w'.cell? ⟨w.heap.size + 1, 0, none⟩ = some (Value.slice bo l2.length cp) ∧ w'.cell? ⟨w.heap.size + 1, 1, none⟩ = some (.int .i64 x) ∧ w'.cell? ⟨w.heap.size + 1, 2, none⟩ = some (.int .i64 y) ∧ w'.cell? ⟨w.heap.size + 1, 3, none⟩ = some (.int .i64 z)) ∧ (w'.cell? ⟨w6.heap.size, 0, none⟩ = some (Value.slice (some ⟨gx, 0, none⟩) l.length l.length) ∧ w'.cell? ⟨w6.heap.size, 1, none⟩ = some (.int .i64 a) ∧ w'.cell? ⟨w6.heap.size, 2, none⟩ = some (.int .i64 b) ∧ w'.cell? ⟨w6.heap.size, 3, none⟩ = some (.int .i64 c)) ∧ (w'.cell? ⟨w7.heap.size, 0, none⟩ = some (Value.slice (some ⟨gy, 0, none⟩) l2.length l2.length) ∧ w'.cell? ⟨w7.heap.size, 1, none⟩ = some (.int .i64 x) ∧ w'.cell? ⟨w7.heap.size, 2, none⟩ = some (.int .i64 y) ∧ w'.cell? ⟨w7.heap.size, 3, none⟩ = some (.int .i64 z)) ∧ (w.heap.size < w'.heap.size) ∧ (w.heap.size + 1 < w'.heap.size) ∧ (w6.heap.size < w'.heap.size) ∧ (w7.heap.size < w'.heap.size) ∧ SibRow w' (ao) l ∧ SibRow w' (bo) l2 ∧ SibRow w' (some ⟨gx, 0, none⟩) l ∧ SibRow w' (some ⟨gy, 0, none⟩) l2 ∧ Below w.heap.size w w')) (by kernel_rfl) ?_ (fun hHeld => ?_)
  · (try dsimp only)
    exact ⟨BA.out, BB.out, BxA.out, BxB.out, LA.out, LB.out, LxA.out, LxB.out, RA.out, RB.out, RxA.out, RxB.out, (bel_next HB (bel_drew _)).out⟩
  refine wpAnyH_take (i := 0) (v := ?_) rfl (by kernel_rfl) (by kernel_rfl) (by kernel_rfl) (fun _ _ _ h => h) (Or.inl ⟨by rfl, ?_⟩) (by assumption) ?_
  rotate_left
  · intro w' hSw
    (try dsimp only at hSw)
    go_simp
    all_goals (try with_reducible rfl)
  (try simp only [Act.put, List.getElem_toArray, List.getElem_cons_zero, List.getElem_cons_succ, List.setIfInBounds_toArray, List.set_cons_zero, List.set_cons_succ])
  refine wpAnyH_take (i := 1) (v := ?_) rfl (by kernel_rfl) (by kernel_rfl) (by kernel_rfl) (fun _ _ _ h => h) (Or.inl ⟨by rfl, ?_⟩) (by assumption) ?_
  rotate_left
  · intro w' hSw
    (try dsimp only at hSw)
    go_simp
    all_goals (try with_reducible rfl)
  (try simp only [Act.put, List.getElem_toArray, List.getElem_cons_zero, List.getElem_cons_succ, List.setIfInBounds_toArray, List.set_cons_zero, List.set_cons_succ])
  refine wpAnyH_ready (rs := [2]) (by kernel_rfl) (by simp) ?_
  refine AllReadyH.cons rfl (fun K hK => ?_) AllReadyH.nil
  (try simp only [Act.put, List.getElem_toArray, List.getElem_cons_zero, List.getElem_cons_succ, List.setIfInBounds_toArray, List.set_cons_zero, List.set_cons_succ])
  go_simp
  (go_at_call 8; refine (toObj_any cp bo l2 x y z _ hm2 hHeld.2.2.2.2.2.2.2.2.2.1).mono ?_; rintro e w11 ⟨g9, rfl, hb, hg, hG, hT, hS⟩; have RT := row_of_at hS; clear hg hG hT hS)
  (try simp only [])
  refine hK.out _ _ ?_ (fun hHeld' => ?_)
  · (try dsimp only)
    exact ⟨c4_next hHeld.1 hb hHeld.2.2.2.2.1, c4_next hHeld.2.1 hb hHeld.2.2.2.2.2.1, c4_next hHeld.2.2.1 hb hHeld.2.2.2.2.2.2.1, c4_next hHeld.2.2.2.1 hb hHeld.2.2.2.2.2.2.2.1, lt_next hHeld.2.2.2.2.1 hb, lt_next hHeld.2.2.2.2.2.1 hb, lt_next hHeld.2.2.2.2.2.2.1 hb, lt_next hHeld.2.2.2.2.2.2.2.1 hb, row_next hHeld.2.2.2.2.2.2.2.2.1 hb, row_next hHeld.2.2.2.2.2.2.2.2.2.1 hb, row_next hHeld.2.2.2.2.2.2.2.2.2.2.1 hb, row_next hHeld.2.2.2.2.2.2.2.2.2.2.2.1 hb, bel_next hHeld.2.2.2.2.2.2.2.2.2.2.2.2 hb⟩
  clear hK K
  clear hHeld
  have hHeld := hHeld'
  clear hHeld'
  clear hb
  (try simp only [Act.put, List.getElem_toArray, List.getElem_cons_zero, List.getElem_cons_succ, List.setIfInBounds_toArray, List.set_cons_zero, List.set_cons_succ])
  refine wpAnyH_ready (rs := [3]) (by kernel_rfl) (by simp) ?_
  refine AllReadyH.cons rfl (fun K hK => ?_) AllReadyH.nil
  (try simp only [Act.put, List.getElem_toArray, List.getElem_cons_zero, List.getElem_cons_succ, List.setIfInBounds_toArray, List.set_cons_zero, List.set_cons_succ])
  go_simp
  (go_at_call 10; refine (eqObj_same l2.length l2.length _ _ l2 x y z _ hm2 hHeld.2.2.2.2.2.2.2.2.2.2.2.1 RT.out).mono ?_; rintro e w12 ⟨rfl, hb⟩)
  (try simp only [])
  refine hK.out _ _ ?_ (fun hHeld' => ?_)
  · (try dsimp only)
    exact ⟨c4_next hHeld.1 hb hHeld.2.2.2.2.1, c4_next hHeld.2.1 hb hHeld.2.2.2.2.2.1, c4_next hHeld.2.2.1 hb hHeld.2.2.2.2.2.2.1, c4_next hHeld.2.2.2.1 hb hHeld.2.2.2.2.2.2.2.1, lt_next hHeld.2.2.2.2.1 hb, lt_next hHeld.2.2.2.2.2.1 hb, lt_next hHeld.2.2.2.2.2.2.1 hb, lt_next hHeld.2.2.2.2.2.2.2.1 hb, row_next hHeld.2.2.2.2.2.2.2.2.1 hb, row_next hHeld.2.2.2.2.2.2.2.2.2.1 hb, row_next hHeld.2.2.2.2.2.2.2.2.2.2.1 hb, row_next hHeld.2.2.2.2.2.2.2.2.2.2.2.1 hb, bel_next hHeld.2.2.2.2.2.2.2.2.2.2.2.2 hb⟩
  clear hK K
  clear hHeld
  have hHeld := hHeld'
  clear hHeld'
  clear hb
  (try simp only [Act.put, List.getElem_toArray, List.getElem_cons_zero, List.getElem_cons_succ, List.setIfInBounds_toArray, List.set_cons_zero, List.set_cons_succ])
  refine wpAnyH_take (i := 4) (v := ?_) rfl (by kernel_rfl) (by kernel_rfl) (by kernel_rfl) (fun _ _ _ h => h) (Or.inl ⟨by rfl, ?_⟩) (by assumption) ?_
  rotate_left
  · intro w' hSw
    (try dsimp only at hSw)
    go_simp
    all_goals (try with_reducible rfl)
  (try simp only [Act.put, List.getElem_toArray, List.getElem_cons_zero, List.getElem_cons_succ, List.setIfInBounds_toArray, List.set_cons_zero, List.set_cons_succ])
  refine wpAnyH_done (by kernel_rfl) ?_ _
  replace BA : Hid _ := hHeld.1
  replace BB : Hid _ := hHeld.2.1
  replace BxA : Hid _ := hHeld.2.2.1
  replace BxB : Hid _ := hHeld.2.2.2.1
  replace LA : Hid _ := hHeld.2.2.2.2.1
  replace LB : Hid _ := hHeld.2.2.2.2.2.1
  replace LxA : Hid _ := hHeld.2.2.2.2.2.2.1
  replace LxB : Hid _ := hHeld.2.2.2.2.2.2.2.1
  replace RA : Hid _ := hHeld.2.2.2.2.2.2.2.2.1
  replace RB : Hid _ := hHeld.2.2.2.2.2.2.2.2.2.1
  replace RxA : Hid _ := hHeld.2.2.2.2.2.2.2.2.2.2.1
  replace RxB : Hid _ := hHeld.2.2.2.2.2.2.2.2.2.2.2.1
  replace HB : Hid _ := hHeld.2.2.2.2.2.2.2.2.2.2.2.2
  clear hHeld
  clear RT
  clear RA RB RxA RxB BA BB BxA BxB LA LB LxA LxB
  go_wp2
  go_ret
  exact ⟨rfl, HB.out⟩

set_option maxHeartbeats 1000000 in
theorem law_covers (cap cp : Nat) (ao bo : Option Addr) (l l2 : List Sib) (a b c x y z : Int) (w : World) (hl : l.length ≤ 9223372036854775807) (hr0 : SibRow w ao l) (hl2 : l2.length ≤ 9223372036854775807) (hs0 : SibRow w bo l2) :
    Calls Try.prog 4 #[.agg #[.slice ao l.length cap, .int .i64 a, .int .i64 b, .int .i64 c], .agg #[.slice bo l2.length cp, .int .i64 x, .int .i64 y, .int .i64 z]] w fun e w' => e = .returned (.bool true) ∧ Below w.heap.size w w' := by
  by_cases h : l.length + l2.length ≤ 1048576
  · exact law_covers_small cap cp ao bo l l2 a b c x y z w h hr0 hs0
  · by_cases h1 : l.length ≤ 1048576
    · have hif : (if (l.length : Int) ≤ 1048576 then 1048576 - (l.length : Int) else -1) = 1048576 - (l.length : Int) := if_pos (by omega)
      have hng : ¬ 1048576 - (l.length : Int) < 0 := by omega
      have hif2 : (if (l2.length : Int) ≤ 1048576 - (l.length : Int) then 1048576 - (l.length : Int) - (l2.length : Int) else -1) = -1 := if_neg (by omega)
      have HB : Hid (Below w.heap.size w w) := Below.refl _ _
      have RA : Hid (SibRow w ao l) := hr0
      have RB : Hid (SibRow w bo l2) := hs0
      clear hr0 hs0
      go_enter Try.func4, Try.ntmps4
      go_wp2_with fail
      refine (szObj_any cap ao l a b c 1048576 _ (by omega) (by omega) (by omega)).mono ?_
      rintro e w1 ⟨rfl, hb⟩
      have BA := c4_next (c4_next box_new (bel_alloc _ _) lt_new) hb (lt_next lt_new (bel_alloc _ _))
      have LA := lt_next (lt_next lt_new (bel_alloc _ _)) hb
      have BB := c4_next box_new hb lt_new
      have LB := lt_next lt_new hb
      replace RA := row_next (row_next (row_next RA (bel_alloc _ _)) (bel_alloc _ _)) hb
      replace RB := row_next (row_next (row_next RB (bel_alloc _ _)) (bel_alloc _ _)) hb
      replace HB := bel_next (bel_next (bel_next HB (bel_alloc _ _)) (bel_alloc _ _)) hb
      simp only [World.size_alloc] at BB LB
      clear hb
      rw [hif]
      obtain ⟨bA0, bA1, bA2, bA3⟩ := BA.out
      obtain ⟨bB0, bB1, bB2, bB3⟩ := BB.out
      go_wp2_with fail
      clear bA0 bA1 bA2 bA3
      clear bB0 bB1 bB2 bB3
      refine (szObj_any cp bo l2 x y z _ _ (by omega) (by omega) (by omega)).mono ?_
      rintro e w2 ⟨rfl, hb⟩
      replace BA := c4_next BA hb LA
      replace BB := c4_next BB hb LB
      replace LA := lt_next LA hb
      replace LB := lt_next LB hb
      replace RA := row_next RA hb
      replace RB := row_next RB hb
      replace HB := bel_next HB hb
      clear hb
      rw [hif2]
      clear RA RB BA BB LA LB
      go_wp2
      go_ret
      exact ⟨rfl, HB.out⟩
    · have hif : (if (l.length : Int) ≤ 1048576 then 1048576 - (l.length : Int) else -1) = -1 := if_neg (by omega)
      clear hr0 hs0
      go_enter Try.func4, Try.ntmps4
      go_wp2_with fail
      refine (szObj_any cap ao l a b c 1048576 _ (by omega) (by omega) (by omega)).mono ?_
      rintro e w1 ⟨rfl, hb⟩
      rw [hif]
      have HB : Hid (Below w.heap.size w w1) := ((bel_alloc _ _).trans ((bel_alloc _ _).mono (by simp))).trans (hb.mono (by simp; omega))
      clear hb
      go_wp2
      go_ret
      exact ⟨rfl, HB.out⟩

end Go.Proofs.Ythbdjnaamjnibaa

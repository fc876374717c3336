/- The law of Covered. -/
import Derived.Test.YtmbjjinibnonoaaRows
import Derived.WalkKit
import Derived.WalkSpells
import Derived.WalkLawsBesides
import Derived.Deep.QuietTactic
import Derived.BigQuiet
import Derived.Deep.RegionHeld3
import Derived.Test.YtmbjjinibnonoaaCv
import Derived.LoopN
namespace Go.Proofs.Ytmbjjinibnonoaa
open Go.RowKit
set_option linter.unusedSimpArgs false
set_option linter.unusedVariables false

theorem box3_new {W : World} {a b c : Int} {t : TypeId} : Hid (Cells3 (W.alloc (.cells #[.int .i64 a, .int .i64 b, .int .i64 c] t)) W.heap.size a b c) := by
  refine ⟨?_, ?_, ?_⟩ <;> go_simp
theorem cov_res (x y z : Int) (l : List Sib) (k0 : Bool) : ∃ (r : Bool) (code : Int), Hid ((k0 = true ∧ vvB x y z = true → code = 0 ∧ (r = true ↔ Knows x y z l)) ∧ (¬ (k0 = true ∧ vvB x y z = true) → r = false ∧ code = 1)) := by
  by_cases h : k0 = true ∧ vvB x y z = true
  · obtain ⟨r, hr⟩ := bool_of (Knows x y z l)
    exact ⟨r, 0, fun _ => ⟨rfl, hr.out⟩, fun h' => (h' h).elim⟩
  · exact ⟨false, 1, fun h' => (h h').elim, fun _ => ⟨rfl, rfl⟩⟩
set_option maxHeartbeats 4000000 in
theorem law_cov_small (cap : Nat) (ao : Option Addr) (l : List Sib) (a b c x y z : Int) (w : World) (hl : l.length ≤ 1048576) (hr0 : SibRow w ao l) :
    Calls Try.prog 3 #[.agg #[.slice ao l.length cap, .int .i64 a, .int .i64 b, .int .i64 c], .agg #[.int .i64 x, .int .i64 y, .int .i64 z]] w fun e w' => e = .returned (.bool true) ∧ Below w.heap.size w w' := by
  obtain ⟨k0, hO⟩ := bool_of (OkP l a b c)
  obtain ⟨r, code, hC⟩ := cov_res x y z l k0
  have hm : (l.length : Int) ≤ 1048576 := by omega
  have RA : Hid (SibRow w ao l) := hr0
  have HB : Hid (Below w.heap.size w w) := Below.refl _ _
  have hif : (if (l.length : Int) ≤ 1048576 then 1048576 - (l.length : Int) else -1) = 1048576 - (l.length : Int) := if_pos hm
  have hng : ¬ 1048576 - (l.length : Int) < 0 := by omega
  clear hr0
  go_enter Try.func3, Try.ntmps3
  go_wp2_with fail
  refine (szObj_any cap ao l a b c 1048576 _ (by omega) (by omega) (by omega)).mono ?_
  rintro e w1 ⟨rfl, hb⟩
  have BA := c4_next (c4_next box_new (bel_alloc _ _) lt_new) hb (lt_next lt_new (bel_alloc _ _))
  have LA := lt_next (lt_next lt_new (bel_alloc _ _)) hb
  have BC := c3_next box3_new hb lt_new
  have LC := lt_next lt_new hb
  replace RA := row_next (row_next (row_next RA (bel_alloc _ _)) (bel_alloc _ _)) hb
  replace HB := bel_next (bel_next (bel_next HB (bel_alloc _ _)) (bel_alloc _ _)) hb
  simp only [World.size_alloc] at BC LC
  clear hb
  rw [hif]
  go_wp2_with fail
  refine wp_region_held_drew (S := (fun w' => (w'.cell? ⟨w.heap.size, 0, none⟩ = some (Value.slice ao l.length cap) ∧ w'.cell? ⟨w.heap.size, 1, none⟩ = some (.int .i64 a) ∧ w'.cell? ⟨w.heap.size, 2, none⟩ = some (.int .i64 b) ∧ w'.cell? ⟨w.heap.size, 3, none⟩ = some (.int .i64 c)) ∧ (w'.cell? ⟨w.heap.size + 1, 0, none⟩ = some (.int .i64 x) ∧ w'.cell? ⟨w.heap.size + 1, 1, none⟩ = some (.int .i64 y) ∧ w'.cell? ⟨w.heap.size + 1, 2, none⟩ = some (.int .i64 z)) ∧ (w.heap.size < w'.heap.size) ∧ (w.heap.size + 1 < w'.heap.size) ∧ SibRow w' (ao) l ∧ Below w.heap.size w w')) (by kernel_rfl) ?_ (fun hHeld => ?_)
  · (try dsimp only)
    exact ⟨BA.out, BC.out, LA.out, LC.out, RA.out, (bel_next HB (bel_drew _)).out⟩
  refine wpAnyH_take (i := 0) (v := ?_) rfl (by kernel_rfl) (by kernel_rfl) (by kernel_rfl) (fun _ _ _ h => h) (Or.inl ⟨by rfl, ?_⟩) (by assumption) ?_
  rotate_left
  · intro w' hSw
    (try dsimp only at hSw)
    go_simp
    all_goals (try with_reducible rfl)
  (try simp only [Act.put, List.getElem_toArray, List.getElem_cons_zero, List.getElem_cons_succ, List.setIfInBounds_toArray, List.set_cons_zero, List.set_cons_succ])
  refine wpAnyH_take (i := 2) (v := ?_) rfl (by kernel_rfl) (by kernel_rfl) (by kernel_rfl) (fun _ _ _ h => h) (Or.inl ⟨by rfl, ?_⟩) (by assumption) ?_
  rotate_left
  · intro w' hSw
    (try dsimp only at hSw)
    go_simp
    all_goals (try with_reducible rfl)
  (try simp only [Act.put, List.getElem_toArray, List.getElem_cons_zero, List.getElem_cons_succ, List.setIfInBounds_toArray, List.set_cons_zero, List.set_cons_succ])
  refine wpAnyH_ready (rs := [1]) (by kernel_rfl) (by simp) ?_
  refine AllReadyH.cons rfl (fun K hK => ?_) AllReadyH.nil
  (try simp only [Act.put, List.getElem_toArray, List.getElem_cons_zero, List.getElem_cons_succ, List.setIfInBounds_toArray, List.set_cons_zero, List.set_cons_succ])
  go_simp
  (go_at_call 7; refine (toObj_any cap ao l a b c _ hm hHeld.2.2.2.2.1).mono ?_; rintro e w2 ⟨g1, rfl, hb, hg, hG, hT, hS⟩; have R1 := row_of_at hS; clear hg hG hT hS)
  (try simp only [])
  refine hK.out _ _ ?_ (fun hHeld' => ?_)
  · (try dsimp only)
    exact ⟨c4_next hHeld.1 hb hHeld.2.2.1, c3_next hHeld.2.1 hb hHeld.2.2.2.1, lt_next hHeld.2.2.1 hb, lt_next hHeld.2.2.2.1 hb, row_next hHeld.2.2.2.2.1 hb, bel_next hHeld.2.2.2.2.2 hb⟩
  clear hK K
  clear hHeld
  have hHeld := hHeld'
  clear hHeld'
  clear hb
  (try simp only [Act.put, List.getElem_toArray, List.getElem_cons_zero, List.getElem_cons_succ, List.setIfInBounds_toArray, List.set_cons_zero, List.set_cons_succ])
  refine wpAnyH_ready (rs := [3]) (by kernel_rfl) (by simp) ?_
  refine AllReadyH.cons rfl (fun K hK => ?_) AllReadyH.nil
  (try simp only [Act.put, List.getElem_toArray, List.getElem_cons_zero, List.getElem_cons_succ, List.setIfInBounds_toArray, List.set_cons_zero, List.set_cons_succ])
  go_simp
  (go_at_call 8; refine (toVv_any x y z _).mono ?_; rintro e w3 ⟨rfl, hb⟩; replace R1 := row_next R1 hb)
  (try simp only [])
  refine hK.out _ _ ?_ (fun hHeld' => ?_)
  · (try dsimp only)
    exact ⟨c4_next hHeld.1 hb hHeld.2.2.1, c3_next hHeld.2.1 hb hHeld.2.2.2.1, lt_next hHeld.2.2.1 hb, lt_next hHeld.2.2.2.1 hb, row_next hHeld.2.2.2.2.1 hb, bel_next hHeld.2.2.2.2.2 hb⟩
  clear hK K
  clear hHeld
  have hHeld := hHeld'
  clear hHeld'
  clear hb
  (try simp only [Act.put, List.getElem_toArray, List.getElem_cons_zero, List.getElem_cons_succ, List.setIfInBounds_toArray, List.set_cons_zero, List.set_cons_succ])
  refine wpAnyH_ready (rs := [4]) (by kernel_rfl) (by simp) ?_
  refine AllReadyH.cons rfl (fun K hK => ?_) AllReadyH.nil
  (try simp only [Act.put, List.getElem_toArray, List.getElem_cons_zero, List.getElem_cons_succ, List.setIfInBounds_toArray, List.set_cons_zero, List.set_cons_succ])
  go_simp
  (go_at_call 6; refine (specCov_any l.length _ l a b c x y z r k0 code hO hC _ hm R1.out).mono ?_; rintro e w4 ⟨rfl, hb⟩)
  (try simp only [])
  refine hK.out _ _ ?_ (fun hHeld' => ?_)
  · (try dsimp only)
    exact ⟨c4_next hHeld.1 hb hHeld.2.2.1, c3_next hHeld.2.1 hb hHeld.2.2.2.1, lt_next hHeld.2.2.1 hb, lt_next hHeld.2.2.2.1 hb, row_next hHeld.2.2.2.2.1 hb, bel_next hHeld.2.2.2.2.2 hb⟩
  clear hK K
  clear hHeld
  have hHeld := hHeld'
  clear hHeld'
  clear hb R1
  (try simp only [Act.put, List.getElem_toArray, List.getElem_cons_zero, List.getElem_cons_succ, List.setIfInBounds_toArray, List.set_cons_zero, List.set_cons_succ])
  refine wpAnyH_take (i := 5) (v := ?_) rfl (by kernel_rfl) (by kernel_rfl) (by kernel_rfl) (fun _ _ _ h => h) (Or.inl ⟨by rfl, ?_⟩) (by assumption) ?_
  rotate_left
  · intro w' hSw
    (try dsimp only at hSw)
    go_simp
    all_goals (try with_reducible rfl)
  (try simp only [Act.put, List.getElem_toArray, List.getElem_cons_zero, List.getElem_cons_succ, List.setIfInBounds_toArray, List.set_cons_zero, List.set_cons_succ])
  refine wpAnyH_take (i := 6) (v := ?_) rfl (by kernel_rfl) (by kernel_rfl) (by kernel_rfl) (fun _ _ _ h => h) (Or.inl ⟨by rfl, ?_⟩) (by assumption) ?_
  rotate_left
  · intro w' hSw
    (try dsimp only at hSw)
    go_simp
    all_goals (try with_reducible rfl)
  (try simp only [Act.put, List.getElem_toArray, List.getElem_cons_zero, List.getElem_cons_succ, List.setIfInBounds_toArray, List.set_cons_zero, List.set_cons_succ])
  refine wpAnyH_take (i := 7) (v := ?_) rfl (by kernel_rfl) (by kernel_rfl) (by kernel_rfl) (fun _ _ _ h => h) (Or.inl ⟨by rfl, ?_⟩) (by assumption) ?_
  rotate_left
  · intro w' hSw
    (try dsimp only at hSw)
    go_simp
    all_goals (try with_reducible rfl)
  (try simp only [Act.put, List.getElem_toArray, List.getElem_cons_zero, List.getElem_cons_succ, List.setIfInBounds_toArray, List.set_cons_zero, List.set_cons_succ])
  refine wpAnyH_take (i := 8) (v := ?_) rfl (by kernel_rfl) (by kernel_rfl) (by kernel_rfl) (fun _ _ _ h => h) (Or.inl ⟨by rfl, ?_⟩) (by assumption) ?_
  rotate_left
  · intro w' hSw
    (try dsimp only at hSw)
    go_simp
    all_goals (try with_reducible rfl)
  (try simp only [Act.put, List.getElem_toArray, List.getElem_cons_zero, List.getElem_cons_succ, List.setIfInBounds_toArray, List.set_cons_zero, List.set_cons_succ])
  refine wpAnyH_take (i := 9) (v := ?_) rfl (by kernel_rfl) (by kernel_rfl) (by kernel_rfl) (fun _ _ _ h => h) (Or.inl ⟨by rfl, ?_⟩) (by assumption) ?_
  rotate_left
  · intro w' hSw
    (try dsimp only at hSw)
    go_simp
    all_goals (try with_reducible rfl)
  (try simp only [Act.put, List.getElem_toArray, List.getElem_cons_zero, List.getElem_cons_succ, List.setIfInBounds_toArray, List.set_cons_zero, List.set_cons_succ])
  refine wpAnyH_done (by kernel_rfl) ?_ _
  replace BA : Hid _ := hHeld.1
  replace BC : Hid _ := hHeld.2.1
  replace LA : Hid _ := hHeld.2.2.1
  replace LC : Hid _ := hHeld.2.2.2.1
  replace RA : Hid _ := hHeld.2.2.2.2.1
  replace HB : Hid _ := hHeld.2.2.2.2.2
  clear hHeld
  obtain ⟨bA0, bA1, bA2, bA3⟩ := BA.out
  go_wp2_with fail
  clear bA0 bA1 bA2 bA3
  refine (toObj_any cap ao l a b c _ hm RA.out).mono ?_
  rintro e w5 ⟨gx, rfl, hb, hg, hG, hT, hS⟩
  replace BA := c4_next BA hb LA
  replace BC := c3_next BC hb LC
  replace LA := lt_next LA hb
  replace LC := lt_next LC hb
  replace RA := row_next RA hb
  replace HB := bel_next HB hb
  have RxA := row_of_at hS
  clear hb hg hG hT hS
  go_wp2_with fail
  have BxA := box_new (W := w5) (v0 := .slice (some ⟨gx, 0, none⟩) l.length l.length) (a := a) (b := b) (c := c) (t := 32)
  have LxA := lt_new (W := w5) (o := .cells #[.slice (some ⟨gx, 0, none⟩) l.length l.length, .int .i64 a, .int .i64 b, .int .i64 c] 32)
  replace BA := c4_next BA (bel_alloc w5 (.cells #[.slice (some ⟨gx, 0, none⟩) l.length l.length, .int .i64 a, .int .i64 b, .int .i64 c] 32)) LA
  replace BC := c3_next BC (bel_alloc w5 (.cells #[.slice (some ⟨gx, 0, none⟩) l.length l.length, .int .i64 a, .int .i64 b, .int .i64 c] 32)) LC
  replace LA := lt_next LA (bel_alloc w5 (.cells #[.slice (some ⟨gx, 0, none⟩) l.length l.length, .int .i64 a, .int .i64 b, .int .i64 c] 32))
  replace LC := lt_next LC (bel_alloc w5 (.cells #[.slice (some ⟨gx, 0, none⟩) l.length l.length, .int .i64 a, .int .i64 b, .int .i64 c] 32))
  replace RA := row_next RA (bel_alloc w5 (.cells #[.slice (some ⟨gx, 0, none⟩) l.length l.length, .int .i64 a, .int .i64 b, .int .i64 c] 32))
  replace RxA := row_next RxA (bel_alloc w5 (.cells #[.slice (some ⟨gx, 0, none⟩) l.length l.length, .int .i64 a, .int .i64 b, .int .i64 c] 32))
  replace HB := bel_next HB (bel_alloc w5 (.cells #[.slice (some ⟨gx, 0, none⟩) l.length l.length, .int .i64 a, .int .i64 b, .int .i64 c] 32))
  refine wp_region_held_drew (S := (fun w' => (w'.cell? ⟨w.heap.size, 0, none⟩ = some (Value.slice ao l.length cap) ∧ w'.cell? ⟨w.heap.size, 1, none⟩ = some (.int .i64 a) ∧ w'.cell? ⟨w.heap.size, 2, none⟩ = some (.int .i64 b) ∧ w'.cell? ⟨w.heap.size, 3, none⟩ = some (.int .i64 c)) ∧ (w'.cell? ⟨w.heap.size + 1, 0, none⟩ = some (.int .i64 x) ∧ w'.cell? ⟨w.heap.size + 1, 1, none⟩ = some (.int .i64 y) ∧ w'.cell? ⟨w.heap.size + 1, 2, none⟩ = some (.int .i64 z)) ∧ (w'.cell? ⟨w5.heap.size, 0, none⟩ = some (Value.slice (some ⟨gx, 0, none⟩) l.length l.length) ∧ w'.cell? ⟨w5.heap.size, 1, none⟩ = some (.int .i64 a) ∧ w'.cell? ⟨w5.heap.size, 2, none⟩ = some (.int .i64 b) ∧ w'.cell? ⟨w5.heap.size, 3, none⟩ = some (.int .i64 c)) ∧ (w.heap.size < w'.heap.size) ∧ (w.heap.size + 1 < w'.heap.size) ∧ (w5.heap.size < w'.heap.size) ∧ SibRow w' (ao) l ∧ SibRow w' (some ⟨gx, 0, none⟩) l ∧ Below w.heap.size w w')) (by kernel_rfl) ?_ (fun hHeld => ?_)
  · (try dsimp only)
    exact ⟨BA.out, BC.out, BxA.out, LA.out, LC.out, LxA.out, RA.out, RxA.out, (bel_next HB (bel_drew _)).out⟩
  refine wpAnyH_take (i := 0) (v := ?_) rfl (by kernel_rfl) (by kernel_rfl) (by kernel_rfl) (fun _ _ _ h => h) (Or.inl ⟨by rfl, ?_⟩) (by assumption) ?_
  rotate_left
  · intro w' hSw
    (try dsimp only at hSw)
    go_simp
    all_goals (try with_reducible rfl)
  (try simp only [Act.put, List.getElem_toArray, List.getElem_cons_zero, List.getElem_cons_succ, List.setIfInBounds_toArray, List.set_cons_zero, List.set_cons_succ])
  refine wpAnyH_take (i := 1) (v := ?_) rfl (by kernel_rfl) (by kernel_rfl) (by kernel_rfl) (fun _ _ _ h => h) (Or.inl ⟨by rfl, ?_⟩) (by assumption) ?_
  rotate_left
  · intro w' hSw
    (try dsimp only at hSw)
    go_simp
    all_goals (try with_reducible rfl)
  (try simp only [Act.put, List.getElem_toArray, List.getElem_cons_zero, List.getElem_cons_succ, List.setIfInBounds_toArray, List.set_cons_zero, List.set_cons_succ])
  refine wpAnyH_ready (rs := [2]) (by kernel_rfl) (by simp) ?_
  refine AllReadyH.cons rfl (fun K hK => ?_) AllReadyH.nil
  (try simp only [Act.put, List.getElem_toArray, List.getElem_cons_zero, List.getElem_cons_succ, List.setIfInBounds_toArray, List.set_cons_zero, List.set_cons_succ])
  go_simp
  (go_at_call 8; refine (toVv_any x y z _).mono ?_; rintro e w6 ⟨rfl, hb⟩)
  (try simp only [])
  refine hK.out _ _ ?_ (fun hHeld' => ?_)
  · (try dsimp only)
    exact ⟨c4_next hHeld.1 hb hHeld.2.2.2.1, c3_next hHeld.2.1 hb hHeld.2.2.2.2.1, c4_next hHeld.2.2.1 hb hHeld.2.2.2.2.2.1, lt_next hHeld.2.2.2.1 hb, lt_next hHeld.2.2.2.2.1 hb, lt_next hHeld.2.2.2.2.2.1 hb, row_next hHeld.2.2.2.2.2.2.1 hb, row_next hHeld.2.2.2.2.2.2.2.1 hb, bel_next hHeld.2.2.2.2.2.2.2.2 hb⟩
  clear hK K
  clear hHeld
  have hHeld := hHeld'
  clear hHeld'
  clear hb
  (try simp only [Act.put, List.getElem_toArray, List.getElem_cons_zero, List.getElem_cons_succ, List.setIfInBounds_toArray, List.set_cons_zero, List.set_cons_succ])
  refine wpAnyH_ready (rs := [3]) (by kernel_rfl) (by simp) ?_
  refine AllReadyH.cons rfl (fun K hK => ?_) AllReadyH.nil
  (try simp only [Act.put, List.getElem_toArray, List.getElem_cons_zero, List.getElem_cons_succ, List.setIfInBounds_toArray, List.set_cons_zero, List.set_cons_succ])
  go_simp
  (go_at_call 9; refine (implCov_any l.length _ l a b c x y z r k0 code hO hC _ hm hHeld.2.2.2.2.2.2.2.1).mono ?_; rintro e w7 ⟨rfl, hb⟩)
  (try simp only [])
  refine hK.out _ _ ?_ (fun hHeld' => ?_)
  · (try dsimp only)
    exact ⟨c4_next hHeld.1 hb hHeld.2.2.2.1, c3_next hHeld.2.1 hb hHeld.2.2.2.2.1, c4_next hHeld.2.2.1 hb hHeld.2.2.2.2.2.1, lt_next hHeld.2.2.2.1 hb, lt_next hHeld.2.2.2.2.1 hb, lt_next hHeld.2.2.2.2.2.1 hb, row_next hHeld.2.2.2.2.2.2.1 hb, row_next hHeld.2.2.2.2.2.2.2.1 hb, bel_next hHeld.2.2.2.2.2.2.2.2 hb⟩
  clear hK K
  clear hHeld
  have hHeld := hHeld'
  clear hHeld'
  clear hb
  (try simp only [Act.put, List.getElem_toArray, List.getElem_cons_zero, List.getElem_cons_succ, List.setIfInBounds_toArray, List.set_cons_zero, List.set_cons_succ])
  refine wpAnyH_take (i := 4) (v := ?_) rfl (by kernel_rfl) (by kernel_rfl) (by kernel_rfl) (fun _ _ _ h => h) (Or.inl ⟨by rfl, ?_⟩) (by assumption) ?_
  rotate_left
  · intro w' hSw
    (try dsimp only at hSw)
    go_simp
    all_goals (try with_reducible rfl)
  (try simp only [Act.put, List.getElem_toArray, List.getElem_cons_zero, List.getElem_cons_succ, List.setIfInBounds_toArray, List.set_cons_zero, List.set_cons_succ])
  refine wpAnyH_take (i := 5) (v := ?_) rfl (by kernel_rfl) (by kernel_rfl) (by kernel_rfl) (fun _ _ _ h => h) (Or.inl ⟨by rfl, ?_⟩) (by assumption) ?_
  rotate_left
  · intro w' hSw
    (try dsimp only at hSw)
    go_simp
    all_goals (try with_reducible rfl)
  (try simp only [Act.put, List.getElem_toArray, List.getElem_cons_zero, List.getElem_cons_succ, List.setIfInBounds_toArray, List.set_cons_zero, List.set_cons_succ])
  refine wpAnyH_take (i := 6) (v := ?_) rfl (by kernel_rfl) (by kernel_rfl) (by kernel_rfl) (fun _ _ _ h => h) (Or.inl ⟨by rfl, ?_⟩) (by assumption) ?_
  rotate_left
  · intro w' hSw
    (try dsimp only at hSw)
    go_simp
    all_goals (try with_reducible rfl)
  (try simp only [Act.put, List.getElem_toArray, List.getElem_cons_zero, List.getElem_cons_succ, List.setIfInBounds_toArray, List.set_cons_zero, List.set_cons_succ])
  refine wpAnyH_take (i := 7) (v := ?_) rfl (by kernel_rfl) (by kernel_rfl) (by kernel_rfl) (fun _ _ _ h => h) (Or.inl ⟨by rfl, ?_⟩) (by assumption) ?_
  rotate_left
  · intro w' hSw
    (try dsimp only at hSw)
    go_simp
    all_goals (try with_reducible rfl)
  (try simp only [Act.put, List.getElem_toArray, List.getElem_cons_zero, List.getElem_cons_succ, List.setIfInBounds_toArray, List.set_cons_zero, List.set_cons_succ])
  refine wpAnyH_take (i := 8) (v := ?_) rfl (by kernel_rfl) (by kernel_rfl) (by kernel_rfl) (fun _ _ _ h => h) (Or.inl ⟨by rfl, ?_⟩) (by assumption) ?_
  rotate_left
  · intro w' hSw
    (try dsimp only at hSw)
    go_simp
    all_goals (try with_reducible rfl)
  (try simp only [Act.put, List.getElem_toArray, List.getElem_cons_zero, List.getElem_cons_succ, List.setIfInBounds_toArray, List.set_cons_zero, List.set_cons_succ])
  refine wpAnyH_done (by kernel_rfl) ?_ _
  replace BA : Hid _ := hHeld.1
  replace BC : Hid _ := hHeld.2.1
  replace BxA : Hid _ := hHeld.2.2.1
  replace LA : Hid _ := hHeld.2.2.2.1
  replace LC : Hid _ := hHeld.2.2.2.2.1
  replace LxA : Hid _ := hHeld.2.2.2.2.2.1
  replace RA : Hid _ := hHeld.2.2.2.2.2.2.1
  replace RxA : Hid _ := hHeld.2.2.2.2.2.2.2.1
  replace HB : Hid _ := hHeld.2.2.2.2.2.2.2.2
  clear hHeld
  clear hO hC
  go_wp2_with fail
  refine wp_region_held_drew (S := (fun w' => (w'.cell? ⟨w.heap.size, 0, none⟩ = some (Value.slice ao l.length cap) ∧ w'.cell? ⟨w.heap.size, 1, none⟩ = some (.int .i64 a) ∧ w'.cell? ⟨w.heap.size, 2, none⟩ = some (.int .i64 b) ∧ w'.cell? ⟨w.heap.size, 3, none⟩ = some (.int .i64 c)) ∧ (w'.cell? ⟨w.heap.size + 1, 0, none⟩ = some (.int .i64 x) ∧ w'.cell? ⟨w.heap.size + 1, 1, none⟩ = some (.int .i64 y) ∧ w'.cell? ⟨w.heap.size + 1, 2, none⟩ = some (.int .i64 z)) ∧ (w'.cell? ⟨w5.heap.size, 0, none⟩ = some (Value.slice (some ⟨gx, 0, none⟩) l.length l.length) ∧ w'.cell? ⟨w5.heap.size, 1, none⟩ = some (.int .i64 a) ∧ w'.cell? ⟨w5.heap.size, 2, none⟩ = some (.int .i64 b) ∧ w'.cell? ⟨w5.heap.size, 3, none⟩ = some (.int .i64 c)) ∧ (w.heap.size < w'.heap.size) ∧ (w.heap.size + 1 < w'.heap.size) ∧ (w5.heap.size < w'.heap.size) ∧ SibRow w' (ao) l ∧ SibRow w' (some ⟨gx, 0, none⟩) l ∧ Below w.heap.size w w')) (by kernel_rfl) ?_ (fun hHeld => ?_)
  · (try dsimp only)
    exact ⟨BA.out, BC.out, BxA.out, LA.out, LC.out, LxA.out, RA.out, RxA.out, (bel_next HB (bel_drew _)).out⟩
  refine wpAnyH_take (i := 0) (v := ?_) rfl (by kernel_rfl) (by kernel_rfl) (by kernel_rfl) (fun _ _ _ h => h) (Or.inl ⟨by rfl, ?_⟩) (by assumption) ?_
  rotate_left
  · intro w' hSw
    (try dsimp only at hSw)
    go_simp
    all_goals (try with_reducible rfl)
  (try simp only [Act.put, List.getElem_toArray, List.getElem_cons_zero, List.getElem_cons_succ, List.setIfInBounds_toArray, List.set_cons_zero, List.set_cons_succ])
  refine wpAnyH_take (i := 1) (v := ?_) rfl (by kernel_rfl) (by kernel_rfl) (by kernel_rfl) (fun _ _ _ h => h) (Or.inl ⟨by rfl, ?_⟩) (by assumption) ?_
  rotate_left
  · intro w' hSw
    (try dsimp only at hSw)
    go_simp
    all_goals (try with_reducible rfl)
  (try simp only [Act.put, List.getElem_toArray, List.getElem_cons_zero, List.getElem_cons_succ, List.setIfInBounds_toArray, List.set_cons_zero, List.set_cons_succ])
  refine wpAnyH_ready (rs := [2]) (by kernel_rfl) (by simp) ?_
  refine AllReadyH.cons rfl (fun K hK => ?_) AllReadyH.nil
  (try simp only [Act.put, List.getElem_toArray, List.getElem_cons_zero, List.getElem_cons_succ, List.setIfInBounds_toArray, List.set_cons_zero, List.set_cons_succ])
  go_simp
  (go_at_call 7; refine (toObj_any cap ao l a b c _ hm hHeld.2.2.2.2.2.2.1).mono ?_; rintro e w8 ⟨g9, rfl, hb, hg, hG, hT, hS⟩; have RT := row_of_at hS; clear hg hG hT hS)
  (try simp only [])
  refine hK.out _ _ ?_ (fun hHeld' => ?_)
  · (try dsimp only)
    exact ⟨c4_next hHeld.1 hb hHeld.2.2.2.1, c3_next hHeld.2.1 hb hHeld.2.2.2.2.1, c4_next hHeld.2.2.1 hb hHeld.2.2.2.2.2.1, lt_next hHeld.2.2.2.1 hb, lt_next hHeld.2.2.2.2.1 hb, lt_next hHeld.2.2.2.2.2.1 hb, row_next hHeld.2.2.2.2.2.2.1 hb, row_next hHeld.2.2.2.2.2.2.2.1 hb, bel_next hHeld.2.2.2.2.2.2.2.2 hb⟩
  clear hK K
  clear hHeld
  have hHeld := hHeld'
  clear hHeld'
  clear hb
  (try simp only [Act.put, List.getElem_toArray, List.getElem_cons_zero, List.getElem_cons_succ, List.setIfInBounds_toArray, List.set_cons_zero, List.set_cons_succ])
  refine wpAnyH_ready (rs := [3]) (by kernel_rfl) (by simp) ?_
  refine AllReadyH.cons rfl (fun K hK => ?_) AllReadyH.nil
  (try simp only [Act.put, List.getElem_toArray, List.getElem_cons_zero, List.getElem_cons_succ, List.setIfInBounds_toArray, List.set_cons_zero, List.set_cons_succ])
  go_simp
  (go_at_call 10; refine (eqObj_same l.length l.length _ _ l a b c _ hm hHeld.2.2.2.2.2.2.2.1 RT.out).mono ?_; rintro e w9 ⟨rfl, hb⟩)
  (try simp only [])
  refine hK.out _ _ ?_ (fun hHeld' => ?_)
  · (try dsimp only)
    exact ⟨c4_next hHeld.1 hb hHeld.2.2.2.1, c3_next hHeld.2.1 hb hHeld.2.2.2.2.1, c4_next hHeld.2.2.1 hb hHeld.2.2.2.2.2.1, lt_next hHeld.2.2.2.1 hb, lt_next hHeld.2.2.2.2.1 hb, lt_next hHeld.2.2.2.2.2.1 hb, row_next hHeld.2.2.2.2.2.2.1 hb, row_next hHeld.2.2.2.2.2.2.2.1 hb, bel_next hHeld.2.2.2.2.2.2.2.2 hb⟩
  clear hK K
  clear hHeld
  have hHeld := hHeld'
  clear hHeld'
  clear hb
  (try simp only [Act.put, List.getElem_toArray, List.getElem_cons_zero, List.getElem_cons_succ, List.setIfInBounds_toArray, List.set_cons_zero, List.set_cons_succ])
  refine wpAnyH_take (i := 4) (v := ?_) rfl (by kernel_rfl) (by kernel_rfl) (by kernel_rfl) (fun _ _ _ h => h) (Or.inl ⟨by rfl, ?_⟩) (by assumption) ?_
  rotate_left
  · intro w' hSw
    (try dsimp only at hSw)
    go_simp
    all_goals (try with_reducible rfl)
  (try simp only [Act.put, List.getElem_toArray, List.getElem_cons_zero, List.getElem_cons_succ, List.setIfInBounds_toArray, List.set_cons_zero, List.set_cons_succ])
  refine wpAnyH_done (by kernel_rfl) ?_ _
  replace BA : Hid _ := hHeld.1
  replace BC : Hid _ := hHeld.2.1
  replace BxA : Hid _ := hHeld.2.2.1
  replace LA : Hid _ := hHeld.2.2.2.1
  replace LC : Hid _ := hHeld.2.2.2.2.1
  replace LxA : Hid _ := hHeld.2.2.2.2.2.1
  replace RA : Hid _ := hHeld.2.2.2.2.2.2.1
  replace RxA : Hid _ := hHeld.2.2.2.2.2.2.2.1
  replace HB : Hid _ := hHeld.2.2.2.2.2.2.2.2
  clear hHeld
  clear RT
  clear RA RxA BA BC BxA LA LC LxA
  go_wp2
  go_ret
  exact ⟨rfl, HB.out⟩

set_option maxHeartbeats 1000000 in
theorem law_cov (cap : Nat) (ao : Option Addr) (l : List Sib) (a b c x y z : Int) (w : World) (hl : l.length ≤ 9223372036854775807) (hr0 : SibRow w ao l) :
    Calls Try.prog 3 #[.agg #[.slice ao l.length cap, .int .i64 a, .int .i64 b, .int .i64 c], .agg #[.int .i64 x, .int .i64 y, .int .i64 z]] w fun e w' => e = .returned (.bool true) ∧ Below w.heap.size w w' := by
  by_cases h : l.length ≤ 1048576
  · exact law_cov_small cap ao l a b c x y z w h hr0
  · have hif : (if (l.length : Int) ≤ 1048576 then 1048576 - (l.length : Int) else -1) = -1 := if_neg (by omega)
    clear hr0
    go_enter Try.func3, Try.ntmps3
    go_wp2_with fail
    refine (szObj_any cap ao l a b c 1048576 _ (by omega) (by omega) (by omega)).mono ?_
    rintro e w1 ⟨rfl, hb⟩
    rw [hif]
    have HB : Hid (Below w.heap.size w w1) := ((bel_alloc _ _).trans ((bel_alloc _ _).mono (by simp))).trans (hb.mono (by simp; omega))
    clear hb
    go_wp2
    go_ret
    exact ⟨rfl, HB.out⟩
end Go.Proofs.Ytmbjjinibnonoaa

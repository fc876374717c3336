/- The law of ReplyText. -/
import Derived.Test.YtcmniplbiliobaaDoorRows
import Derived.WalkKit
import Derived.WalkSpells
import Derived.WalkLawsBesides
import Derived.Deep.QuietTactic
import Derived.BigQuiet
import Derived.Deep.RegionHeld3
import Derived.Test.YtcmniplbiliobaaDoorRp
import Derived.Test.YtcmniplbiliobaaDoorZb
import Derived.LoopN
namespace Go.Proofs.YtcmniplbiliobaaDoor
open Go.RowKit
set_option linter.unusedSimpArgs false
set_option linter.unusedVariables false

set_option maxRecDepth 100000 in
set_option maxHeartbeats 8000000 in
theorem law_reply_small (cap : Nat) (ao : Option Addr) (l : List Sib) (a b c : Int) (w : World) (hl : l.length ≤ 1048576) (hr0 : SibRow w ao l) (ht0 : TB w) :
    Calls Tryd.prog 3 #[.agg #[.slice ao l.length cap, .int .i64 a, .int .i64 b, .int .i64 c]] w fun e w' => e = .returned (.bool true) ∧ Below w.heap.size w w' := by
  obtain ⟨t, code, hT0⟩ := rrel l a b c
  have hT : Hid (RRel l a b c t code) := hT0
  have ht : Hid (TB w) := ht0
  have hm : (l.length : Int) ≤ 1048576 := by omega
  have hif : (if (l.length : Int) ≤ 1048576 then 1048576 - (l.length : Int) else -1) = 1048576 - (l.length : Int) := if_pos (by omega)
  have hng : ¬ 1048576 - (l.length : Int) < 0 := by omega
  have RA : Hid (SibRow w ao l) := hr0
  have B00 : Hid (Below w.heap.size w (w.alloc (.cells #[.slice ao l.length cap, .int .i64 a, .int .i64 b, .int .i64 c] 25))) := bel_alloc _ _
  clear hr0 hT0 ht0
  go_enter Tryd.func3, Tryd.ntmps3
  go_wp2_with fail
  refine (szObj_any cap ao l a b c 1048576 _ (by omega) (by omega) (by omega)).mono ?_
  rintro e w1 ⟨rfl, hb⟩
  have BA := c4_next box_new hb lt_new
  have LA := lt_next lt_new hb
  have HB : Hid (Below w.heap.size w w1) := B00.out.trans (hb.mono B00.out.size)
  replace RA := row_next (row_next RA B00.out) hb
  clear hb B00
  rw [hif]
  clear hif
  obtain ⟨bA0, bA1, bA2, bA3⟩ := BA.out
  go_wp2_with fail
  clear bA0 bA1 bA2 bA3
  refine (toObj_any cap ao l a b c _ hm RA.out).mono ?_
  rintro e w2 ⟨g1, rfl, hb, hg, hG, hT2, hS⟩
  replace BA := c4_next BA hb LA
  replace LA := lt_next LA hb
  replace RA := row_next RA hb
  replace HB := bel_next HB hb
  have R1 := row_of_at hS
  clear hb hg hG hT2 hS
  go_wp2_with fail
  refine (specReply_any l.length _ l a b c t code hT _ hm R1.out).mono ?_
  rintro e w3 ⟨rfl, hb⟩
  replace BA := c4_next BA hb LA
  replace LA := lt_next LA hb
  replace RA := row_next RA hb
  replace HB := bel_next HB hb
  clear hb R1
  obtain ⟨bA0, bA1, bA2, bA3⟩ := BA.out
  go_wp2_with fail
  clear bA0 bA1 bA2 bA3
  refine (toObj_any cap ao l a b c _ hm RA.out).mono ?_
  rintro e w4 ⟨gx, rfl, hb, hg, hG, hT2, hS⟩
  replace BA := c4_next BA hb LA
  replace LA := lt_next LA hb
  replace RA := row_next RA hb
  replace HB := bel_next HB hb
  have RxA := row_of_at hS
  clear hb hg hG hT2 hS
  go_wp2_with fail
  refine (implReply_any l.length _ l a b c t code hT _ hm (row_next RxA (bel_alloc _ _)).out (ht.out.next (bel_next HB (bel_alloc _ _)).out)).mono ?_
  rintro e w5 ⟨rfl, hb⟩
  have BxA := c4_next box_new hb lt_new
  have LxA := lt_next lt_new hb
  replace BA := c4_next (c4_next BA (bel_alloc _ _) LA) hb (lt_next LA (bel_alloc _ _))
  replace LA := lt_next (lt_next LA (bel_alloc _ _)) hb
  replace RA := row_next (row_next RA (bel_alloc _ _)) hb
  replace RxA := row_next (row_next RxA (bel_alloc _ _)) hb
  replace HB := bel_next (bel_next HB (bel_alloc _ _)) hb
  clear hb
  go_wp2_with fail
  refine wp_region_held_drew (S := (fun w' => (w'.cell? ⟨w.heap.size, 0, none⟩ = some (Value.slice ao l.length cap) ∧ w'.cell? ⟨w.heap.size, 1, none⟩ = some (.int .i64 a) ∧ w'.cell? ⟨w.heap.size, 2, none⟩ = some (.int .i64 b) ∧ w'.cell? ⟨w.heap.size, 3, none⟩ = some (.int .i64 c)) ∧ (w'.cell? ⟨w4.heap.size, 0, none⟩ = some (Value.slice (some ⟨gx, 0, none⟩) l.length l.length) ∧ w'.cell? ⟨w4.heap.size, 1, none⟩ = some (.int .i64 a) ∧ w'.cell? ⟨w4.heap.size, 2, none⟩ = some (.int .i64 b) ∧ w'.cell? ⟨w4.heap.size, 3, none⟩ = some (.int .i64 c)) ∧ (w.heap.size < w'.heap.size) ∧ (w4.heap.size < w'.heap.size) ∧ SibRow w' (ao) l ∧ SibRow w' (some ⟨gx, 0, none⟩) l ∧ Below w.heap.size w w')) (by kernel_rfl) ?_ (fun hHeld => ?_)
  · (try dsimp only)
    exact ⟨BA.out, BxA.out, LA.out, LxA.out, RA.out, RxA.out, (bel_next HB (bel_drew _)).out⟩
  refine wpAnyH_take (i := 0) (v := ?_) rfl (by kernel_rfl) (by kernel_rfl) (by kernel_rfl) (fun _ _ _ h => h) (Or.inl ⟨by rfl, ?_⟩) (by assumption) ?_
  rotate_left
  · intro w' hSw
    (try dsimp only at hSw)
    go_simp
    all_goals (try with_reducible rfl)
  (try simp only [Act.put, List.getElem_toArray, List.getElem_cons_zero, List.getElem_cons_succ, List.setIfInBounds_toArray, List.set_cons_zero, List.set_cons_succ])
  refine wpAnyH_take (i := 1) (v := ?_) rfl (by kernel_rfl) (by kernel_rfl) (by kernel_rfl) (fun _ _ _ h => h) (Or.inl ⟨by rfl, ?_⟩) (by assumption) ?_
  rotate_left
  · intro w' hSw
    (try dsimp only at hSw)
    go_simp
    all_goals (try with_reducible rfl)
  (try simp only [Act.put, List.getElem_toArray, List.getElem_cons_zero, List.getElem_cons_succ, List.setIfInBounds_toArray, List.set_cons_zero, List.set_cons_succ])
  refine wpAnyH_ready (rs := [2]) (by kernel_rfl) (by simp) ?_
  refine AllReadyH.cons rfl (fun K hK => ?_) AllReadyH.nil
  (try simp only [Act.put, List.getElem_toArray, List.getElem_cons_zero, List.getElem_cons_succ, List.setIfInBounds_toArray, List.set_cons_zero, List.set_cons_succ])
  go_simp
  (go_at_call 7; refine (toObj_any cap ao l a b c _ hm hHeld.2.2.2.2.1).mono ?_; rintro e w6 ⟨g9, rfl, hb, hg, hG, hT, hS⟩; have RT := row_of_at hS; clear hg hG hT hS)
  (try simp only [])
  refine hK.out _ _ ?_ (fun hHeld' => ?_)
  · (try dsimp only)
    exact ⟨c4_next hHeld.1 hb hHeld.2.2.1, c4_next hHeld.2.1 hb hHeld.2.2.2.1, lt_next hHeld.2.2.1 hb, lt_next hHeld.2.2.2.1 hb, row_next hHeld.2.2.2.2.1 hb, row_next hHeld.2.2.2.2.2.1 hb, bel_next hHeld.2.2.2.2.2.2 hb⟩
  clear hK K
  clear hHeld
  have hHeld := hHeld'
  clear hHeld'
  clear hb
  (try simp only [Act.put, List.getElem_toArray, List.getElem_cons_zero, List.getElem_cons_succ, List.setIfInBounds_toArray, List.set_cons_zero, List.set_cons_succ])
  refine wpAnyH_ready (rs := [3]) (by kernel_rfl) (by simp) ?_
  refine AllReadyH.cons rfl (fun K hK => ?_) AllReadyH.nil
  (try simp only [Act.put, List.getElem_toArray, List.getElem_cons_zero, List.getElem_cons_succ, List.setIfInBounds_toArray, List.set_cons_zero, List.set_cons_succ])
  go_simp
  (go_at_call 9; refine (eqObj_same l.length l.length _ _ l a b c _ hm hHeld.2.2.2.2.2.1 RT.out).mono ?_; rintro e w7 ⟨rfl, hb⟩)
  (try simp only [])
  refine hK.out _ _ ?_ (fun hHeld' => ?_)
  · (try dsimp only)
    exact ⟨c4_next hHeld.1 hb hHeld.2.2.1, c4_next hHeld.2.1 hb hHeld.2.2.2.1, lt_next hHeld.2.2.1 hb, lt_next hHeld.2.2.2.1 hb, row_next hHeld.2.2.2.2.1 hb, row_next hHeld.2.2.2.2.2.1 hb, bel_next hHeld.2.2.2.2.2.2 hb⟩
  clear hK K
  clear hHeld
  have hHeld := hHeld'
  clear hHeld'
  clear hb
  (try simp only [Act.put, List.getElem_toArray, List.getElem_cons_zero, List.getElem_cons_succ, List.setIfInBounds_toArray, List.set_cons_zero, List.set_cons_succ])
  refine wpAnyH_take (i := 4) (v := ?_) rfl (by kernel_rfl) (by kernel_rfl) (by kernel_rfl) (fun _ _ _ h => h) (Or.inl ⟨by rfl, ?_⟩) (by assumption) ?_
  rotate_left
  · intro w' hSw
    (try dsimp only at hSw)
    go_simp
    all_goals (try with_reducible rfl)
  (try simp only [Act.put, List.getElem_toArray, List.getElem_cons_zero, List.getElem_cons_succ, List.setIfInBounds_toArray, List.set_cons_zero, List.set_cons_succ])
  refine wpAnyH_done (by kernel_rfl) ?_ _
  replace BA : Hid _ := hHeld.1
  replace BxA : Hid _ := hHeld.2.1
  replace LA : Hid _ := hHeld.2.2.1
  replace LxA : Hid _ := hHeld.2.2.2.1
  replace RA : Hid _ := hHeld.2.2.2.2.1
  replace RxA : Hid _ := hHeld.2.2.2.2.2.1
  replace HB : Hid _ := hHeld.2.2.2.2.2.2
  clear hHeld
  clear RT
  go_wp2
  go_ret
  exact ⟨rfl, HB.out⟩

set_option maxHeartbeats 1000000 in
theorem law_reply (cap : Nat) (ao : Option Addr) (l : List Sib) (a b c : Int) (w : World) (hl : l.length ≤ 9223372036854775807) (hr0 : SibRow w ao l) (ht0 : TB w) :
    Calls Tryd.prog 3 #[.agg #[.slice ao l.length cap, .int .i64 a, .int .i64 b, .int .i64 c]] w fun e w' => e = .returned (.bool true) ∧ Below w.heap.size w w' := by
  by_cases h : l.length ≤ 1048576
  · exact law_reply_small cap ao l a b c w h hr0 ht0
  · have hif : (if (l.length : Int) ≤ 1048576 then 1048576 - (l.length : Int) else -1) = -1 := if_neg (by omega)
    have B00 : Hid (Below w.heap.size w (w.alloc (.cells #[.slice ao l.length cap, .int .i64 a, .int .i64 b, .int .i64 c] 25))) := bel_alloc _ _
    go_enter Tryd.func3, Tryd.ntmps3
    go_wp2_with fail
    refine (szObj_any cap ao l a b c 1048576 _ (by omega) (by omega) (by omega)).mono ?_
    rintro e w1 ⟨rfl, hb⟩
    have B0 : Hid (Below w.heap.size w w1) := B00.out.trans (hb.mono B00.out.size)
    clear hb B00
    rw [hif]
    go_wp2
    go_ret
    exact ⟨rfl, B0.out⟩
end Go.Proofs.YtcmniplbiliobaaDoor

/- The law of ObjOK. -/
import Derived.Test.YtkecngfblfgjmaaRows
import Derived.WalkKit
import Derived.WalkSpells
import Derived.WalkLawsBesides
import Derived.Deep.QuietTactic
import Derived.BigQuiet
import Derived.Deep.RegionHeld3
import Derived.Test.YtkecngfblfgjmaaSp
import Derived.Test.YtkecngfblfgjmaaSo
import Derived.LoopN
namespace Go.Proofs.Ytkecngfblfgjmaa
open Go.RowKit
set_option linter.unusedSimpArgs false
set_option linter.unusedVariables false

/-- An object's four cells in its box. -/
def Cells4 (W : World) (g : Nat) (v0 : Value) (a b c : Int) : Prop := W.cell? ⟨g, 0, none⟩ = some v0 ∧ W.cell? ⟨g, 1, none⟩ = some (.int .i64 a) ∧ W.cell? ⟨g, 2, none⟩ = some (.int .i64 b) ∧ W.cell? ⟨g, 3, none⟩ = some (.int .i64 c)
theorem c4_next {W W' : World} {g : Nat} {v0 : Value} {a b c : Int} (h : Hid (Cells4 W g v0 a b c)) (hb : Below W.heap.size W W') (hl : Hid (g < W.heap.size)) : Hid (Cells4 W' g v0 a b c) :=
  ⟨cell_next hb h.out.1 hl.out, cell_next hb h.out.2.1 hl.out, cell_next hb h.out.2.2.1 hl.out, cell_next hb h.out.2.2.2 hl.out⟩
theorem lt_next {W W' : World} {g n : Nat} (hl : Hid (g < W.heap.size)) (hb : Below n W W') : Hid (g < W'.heap.size) := Nat.lt_of_lt_of_le hl.out hb.size
theorem le_next {W W' : World} {g n : Nat} (hl : Hid (g ≤ W.heap.size)) (hb : Below n W W') : Hid (g ≤ W'.heap.size) := Nat.le_trans hl.out hb.size
theorem row_next {W W' : World} {ao : Option Addr} {l : List Sib} (h : Hid (SibRow W ao l)) (hb : Below W.heap.size W W') : Hid (SibRow W' ao l) := h.out.next hb
theorem bel_next {w W W' : World} (h : Hid (Below w.heap.size w W)) (hb : Below W.heap.size W W') : Hid (Below w.heap.size w W') := h.out.trans (hb.mono h.out.size)
theorem bel_alloc (W : World) (o : Obj) : Below W.heap.size W (W.alloc o) := (Below.refl _ _).alloc (Nat.le_refl _) _
theorem bel_drew (W : World) : Below W.heap.size W W.drew := (Below.refl _ _).drew
theorem box_new {W : World} {v0 : Value} {a b c : Int} {t : TypeId} : Hid (Cells4 (W.alloc (.cells #[v0, .int .i64 a, .int .i64 b, .int .i64 c] t)) W.heap.size v0 a b c) := by
  refine ⟨?_, ?_, ?_, ?_⟩ <;> go_simp
theorem lt_new {W : World} {o : Obj} : Hid (W.heap.size < (W.alloc o).heap.size) := by show _ < _; simp
theorem row_of_at {W : World} {g : Nat} {l : List Sib} (h : ∀ i (h : i < l.length), SibAt W g (i * 4) l[i]) : Hid (SibRow W (some ⟨g, 0, none⟩) l) := Or.inr ⟨g, 0, rfl, fun i hi => by simpa using h i hi⟩
theorem row_hid {W : World} {ao : Option Addr} {l : List Sib} (h : SibRow W ao l) : Hid (SibRow W ao l) := h

theorem law_keep {w W W' : World} {g h cap : Nat} {ao : Option Addr} {l : List Sib} {a b c : Int} (hb : Below W.heap.size W W') (hS : (W.cell? ⟨w.heap.size, 0, none⟩ = some (Value.slice ao l.length cap) ∧ W.cell? ⟨w.heap.size, 1, none⟩ = some (.int .i64 a) ∧ W.cell? ⟨w.heap.size, 2, none⟩ = some (.int .i64 b) ∧ W.cell? ⟨w.heap.size, 3, none⟩ = some (.int .i64 c)) ∧ (W.cell? ⟨g, 0, none⟩ = some (Value.slice (some ⟨h, 0, none⟩) l.length l.length) ∧ W.cell? ⟨g, 1, none⟩ = some (.int .i64 a) ∧ W.cell? ⟨g, 2, none⟩ = some (.int .i64 b) ∧ W.cell? ⟨g, 3, none⟩ = some (.int .i64 c)) ∧ (w.heap.size < W.heap.size) ∧ (g < W.heap.size) ∧ SibRow W ao l ∧ SibRow W (some ⟨h, 0, none⟩) l ∧ Below w.heap.size w W) : (W'.cell? ⟨w.heap.size, 0, none⟩ = some (Value.slice ao l.length cap) ∧ W'.cell? ⟨w.heap.size, 1, none⟩ = some (.int .i64 a) ∧ W'.cell? ⟨w.heap.size, 2, none⟩ = some (.int .i64 b) ∧ W'.cell? ⟨w.heap.size, 3, none⟩ = some (.int .i64 c)) ∧ (W'.cell? ⟨g, 0, none⟩ = some (Value.slice (some ⟨h, 0, none⟩) l.length l.length) ∧ W'.cell? ⟨g, 1, none⟩ = some (.int .i64 a) ∧ W'.cell? ⟨g, 2, none⟩ = some (.int .i64 b) ∧ W'.cell? ⟨g, 3, none⟩ = some (.int .i64 c)) ∧ (w.heap.size < W'.heap.size) ∧ (g < W'.heap.size) ∧ SibRow W' ao l ∧ SibRow W' (some ⟨h, 0, none⟩) l ∧ Below w.heap.size w W' :=
  ⟨c4_next hS.1 hb hS.2.2.1, c4_next hS.2.1 hb hS.2.2.2.1, lt_next hS.2.2.1 hb, lt_next hS.2.2.2.1 hb, hS.2.2.2.2.1.next hb, hS.2.2.2.2.2.1.next hb, bel_next hS.2.2.2.2.2.2 hb⟩
set_option maxHeartbeats 4000000 in
theorem law_obj_small (cap : Nat) (ao : Option Addr) (l : List Sib) (a b c : Int) (w : World) (hl : l.length ≤ 1048576) (hr0 : SibRow w ao l) :
    Calls Try.prog 4 #[.agg #[.slice ao l.length cap, .int .i64 a, .int .i64 b, .int .i64 c]] w fun e w' => e = .returned (.bool true) ∧ Below w.heap.size w w' := by
  obtain ⟨r, hres⟩ : ∃ r : Bool, Hid (r = true ↔ OkP l a b c) := by
    by_cases h : OkP l a b c
    · exact ⟨true, ⟨fun _ => h, fun _ => rfl⟩⟩
    · exact ⟨false, ⟨fun h' => (by cases h'), fun h' => (h h').elim⟩⟩
  have hm : (l.length : Int) ≤ 1048576 := by omega
  have R0 : Hid (SibRow w ao l) := hr0
  have HB : Hid (Below w.heap.size w w) := Below.refl _ _
  have hif : (if (l.length : Int) ≤ 1048576 then 1048576 - (l.length : Int) else -1) = 1048576 - (l.length : Int) := if_pos hm
  have hng : ¬ 1048576 - (l.length : Int) < 0 := by omega
  clear hr0
  go_enter Try.func4, Try.ntmps4
  go_wp2_with fail
  refine (szObj_any cap ao l a b c 1048576 _ (by omega) (by omega) (by omega)).mono ?_
  rintro e w1 ⟨rfl, hb⟩
  have B0 := c4_next box_new hb lt_new
  have L0 := lt_next (lt_new) hb
  replace R0 := row_next (row_next R0 (bel_alloc _ _)) hb
  replace HB := bel_next (bel_next HB (bel_alloc _ _)) hb
  clear hb
  rw [hif]
  obtain ⟨b00, b01, b02, b03⟩ := B0.out
  go_wp2_with fail
  clear b00 b01 b02 b03
  refine (toObj_any cap ao l a b c _ hm R0.out).mono ?_
  rintro e w2 ⟨g1, rfl, hb, hg1, hG1, hT1, hS1⟩
  replace B0 := c4_next B0 hb L0
  replace L0 := lt_next L0 hb
  replace R0 := row_next R0 hb
  replace HB := bel_next HB hb
  have R1 := row_of_at hS1
  clear hb hg1 hG1 hT1 hS1
  go_wp2_with fail
  refine (specOK_any l.length _ l a b c r hres _ hm R1.out).mono ?_
  rintro e w3 ⟨rfl, hb⟩
  replace B0 := c4_next B0 hb L0
  replace L0 := lt_next L0 hb
  replace R0 := row_next R0 hb
  replace R1 := row_next R1 hb
  replace HB := bel_next HB hb
  clear hb R1
  obtain ⟨b00, b01, b02, b03⟩ := B0.out
  go_wp2_with fail
  clear b00 b01 b02 b03
  refine (toObj_any cap ao l a b c _ hm R0.out).mono ?_
  rintro e w4 ⟨g2, rfl, hb, hg2, hG2, hT2, hS2⟩
  replace B0 := c4_next B0 hb L0
  replace L0 := lt_next L0 hb
  replace R0 := row_next R0 hb
  replace HB := bel_next HB hb
  have R1 := row_of_at hS2
  clear hb hg2 hG2 hT2 hS2
  go_wp2_with fail
  refine (implOK_any l.length _ l a b c r hres _ hm (row_next R1 (bel_alloc _ _)).out).mono ?_
  rintro e w5 ⟨rfl, hb⟩
  have B1 := c4_next box_new hb lt_new
  have L1 := lt_next (lt_new) hb
  replace B0 := c4_next (c4_next B0 (bel_alloc _ _) L0) hb (lt_next L0 (bel_alloc _ _))
  replace L0 := lt_next (lt_next L0 (bel_alloc _ _)) hb
  replace R0 := row_next (row_next R0 (bel_alloc _ _)) hb
  replace R1 := row_next (row_next R1 (bel_alloc _ _)) hb
  replace HB := bel_next (bel_next HB (bel_alloc _ _)) hb
  clear hb hres
  go_wp2_with fail
  refine wp_region_held_drew (S := (fun w' => (w'.cell? ⟨w.heap.size, 0, none⟩ = some (Value.slice ao l.length cap) ∧ w'.cell? ⟨w.heap.size, 1, none⟩ = some (.int .i64 a) ∧ w'.cell? ⟨w.heap.size, 2, none⟩ = some (.int .i64 b) ∧ w'.cell? ⟨w.heap.size, 3, none⟩ = some (.int .i64 c)) ∧ (w'.cell? ⟨w4.heap.size, 0, none⟩ = some (Value.slice (some ⟨g2, 0, none⟩) l.length l.length) ∧ w'.cell? ⟨w4.heap.size, 1, none⟩ = some (.int .i64 a) ∧ w'.cell? ⟨w4.heap.size, 2, none⟩ = some (.int .i64 b) ∧ w'.cell? ⟨w4.heap.size, 3, none⟩ = some (.int .i64 c)) ∧ (w.heap.size < w'.heap.size) ∧ (w4.heap.size < w'.heap.size) ∧ SibRow w' (ao) l ∧ SibRow w' (some ⟨g2, 0, none⟩) l ∧ Below w.heap.size w w')) (by kernel_rfl) ?_ (fun hHeld => ?_)
  · (try dsimp only)
    exact ⟨B0.out, B1.out, L0.out, L1.out, R0.out, R1.out, HB.out.drew⟩
  refine wpAnyH_take (i := 0) (v := ?_) rfl (by kernel_rfl) (by kernel_rfl) (by kernel_rfl) (fun _ _ _ h => h) (Or.inl ⟨by rfl, ?_⟩) (by assumption) ?_
  rotate_left
  · intro w' hSw
    (try dsimp only at hSw)
    go_simp
    all_goals (try with_reducible rfl)
  (try simp only [Act.put, List.getElem_toArray, List.getElem_cons_zero, List.getElem_cons_succ, List.setIfInBounds_toArray, List.set_cons_zero, List.set_cons_succ])
  refine wpAnyH_take (i := 1) (v := ?_) rfl (by kernel_rfl) (by kernel_rfl) (by kernel_rfl) (fun _ _ _ h => h) (Or.inl ⟨by rfl, ?_⟩) (by assumption) ?_
  rotate_left
  · intro w' hSw
    (try dsimp only at hSw)
    go_simp
    all_goals (try with_reducible rfl)
  (try simp only [Act.put, List.getElem_toArray, List.getElem_cons_zero, List.getElem_cons_succ, List.setIfInBounds_toArray, List.set_cons_zero, List.set_cons_succ])
  refine wpAnyH_ready (rs := [2]) (by kernel_rfl) (by simp) ?_
  refine AllReadyH.cons rfl (fun K hK => ?_) AllReadyH.nil
  (try simp only [Act.put, List.getElem_toArray, List.getElem_cons_zero, List.getElem_cons_succ, List.setIfInBounds_toArray, List.set_cons_zero, List.set_cons_succ])
  go_simp
  (go_at_call 10; refine (toObj_any cap ao l a b c _ hm hHeld.2.2.2.2.1).mono ?_; rintro e w6 ⟨g3, rfl, hb, hg3, hG3, hT3, hS3⟩; have R2 := row_of_at hS3; have hK4 := law_keep hb hHeld)
  (try simp only [])
  refine hK.out _ _ ?_ (fun hHeld' => ?_)
  · (try dsimp only)
    first | exact hK4 | exact hK5
  clear hK K
  clear hHeld
  have hHeld := hHeld'
  clear hHeld'
  (try simp only [Act.put, List.getElem_toArray, List.getElem_cons_zero, List.getElem_cons_succ, List.setIfInBounds_toArray, List.set_cons_zero, List.set_cons_succ])
  refine wpAnyH_ready (rs := [3]) (by kernel_rfl) (by simp) ?_
  refine AllReadyH.cons rfl (fun K hK => ?_) AllReadyH.nil
  (try simp only [Act.put, List.getElem_toArray, List.getElem_cons_zero, List.getElem_cons_succ, List.setIfInBounds_toArray, List.set_cons_zero, List.set_cons_succ])
  go_simp
  (go_at_call 12; refine (eqObj_same l.length l.length _ _ l a b c _ hm hHeld.2.2.2.2.2.1 R2.out).mono ?_; rintro e w7 ⟨rfl, hb7⟩; have hK5 := law_keep hb7 hHeld)
  (try simp only [])
  refine hK.out _ _ ?_ (fun hHeld' => ?_)
  · (try dsimp only)
    first | exact hK4 | exact hK5
  clear hK K
  clear hHeld
  have hHeld := hHeld'
  clear hHeld'
  (try simp only [Act.put, List.getElem_toArray, List.getElem_cons_zero, List.getElem_cons_succ, List.setIfInBounds_toArray, List.set_cons_zero, List.set_cons_succ])
  refine wpAnyH_take (i := 4) (v := ?_) rfl (by kernel_rfl) (by kernel_rfl) (by kernel_rfl) (fun _ _ _ h => h) (Or.inl ⟨by rfl, ?_⟩) (by assumption) ?_
  rotate_left
  · intro w' hSw
    (try dsimp only at hSw)
    go_simp
    all_goals (try with_reducible rfl)
  (try simp only [Act.put, List.getElem_toArray, List.getElem_cons_zero, List.getElem_cons_succ, List.setIfInBounds_toArray, List.set_cons_zero, List.set_cons_succ])
  refine wpAnyH_done (by kernel_rfl) ?_ _
  have HB2 : Hid (Below w.heap.size w w7) := hHeld.2.2.2.2.2.2
  clear hHeld hK4 hK5 B0 B1 R0 R1 R2 L0 L1 HB hb hb7
  go_wp2
  go_ret
  exact ⟨rfl, HB2.out⟩

set_option maxHeartbeats 1000000 in
theorem law_obj (cap : Nat) (ao : Option Addr) (l : List Sib) (a b c : Int) (w : World) (hl : l.length ≤ 9223372036854775807) (hr0 : SibRow w ao l) :
    Calls Try.prog 4 #[.agg #[.slice ao l.length cap, .int .i64 a, .int .i64 b, .int .i64 c]] w fun e w' => e = .returned (.bool true) ∧ Below w.heap.size w w' := by
  by_cases h : l.length ≤ 1048576
  · exact law_obj_small cap ao l a b c w h hr0
  · have hif : (if (l.length : Int) ≤ 1048576 then 1048576 - (l.length : Int) else -1) = -1 := if_neg (by omega)
    clear hr0
    go_enter Try.func4, Try.ntmps4
    go_wp2_with fail
    refine (szObj_any cap ao l a b c 1048576 _ (by omega) (by omega) (by omega)).mono ?_
    rintro e w1 ⟨rfl, hb⟩
    rw [hif]
    have HB : Hid (Below w.heap.size w w1) := (bel_alloc _ _).trans (hb.mono (by simp))
    clear hb
    go_wp2
    go_ret
    exact ⟨rfl, HB.out⟩
end Go.Proofs.Ytkecngfblfgjmaa

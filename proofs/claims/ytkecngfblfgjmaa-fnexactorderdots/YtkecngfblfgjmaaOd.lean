/- The law of OrderDots. -/
import Derived.Test.YtkecngfblfgjmaaRows
import Derived.WalkKit
import Derived.WalkSpells
import Derived.WalkLawsBesides
import Derived.Deep.QuietTactic
import Derived.BigQuiet
import Derived.Deep.RegionHeld3
import Derived.Test.YtkecngfblfgjmaaLk
import Derived.LoopN
namespace Go.Proofs.Ytkecngfblfgjmaa
open Go.RowKit
set_option linter.unusedSimpArgs false
set_option linter.unusedVariables false

def Cells3 (W : World) (g : Nat) (a b c : Int) : Prop := W.cell? ⟨g, 0, none⟩ = some (.int .i64 a) ∧ W.cell? ⟨g, 1, none⟩ = some (.int .i64 b) ∧ W.cell? ⟨g, 2, none⟩ = some (.int .i64 c)
theorem c3_next {W W' : World} {g : Nat} {a b c : Int} (h : Hid (Cells3 W g a b c)) (hb : Below W.heap.size W W') (hl : Hid (g < W.heap.size)) : Hid (Cells3 W' g a b c) :=
  ⟨cell_next hb h.out.1 hl.out, cell_next hb h.out.2.1 hl.out, cell_next hb h.out.2.2 hl.out⟩
def Cells2 (W : World) (g : Nat) (a b : Int) : Prop := W.cell? ⟨g, 0, none⟩ = some (.int .i64 a) ∧ W.cell? ⟨g, 1, none⟩ = some (.int .i64 b)
theorem c2_next {W W' : World} {g : Nat} {a b : Int} (h : Hid (Cells2 W g a b)) (hb : Below W.heap.size W W') (hl : Hid (g < W.heap.size)) : Hid (Cells2 W' g a b) :=
  ⟨cell_next hb h.out.1 hl.out, cell_next hb h.out.2 hl.out⟩
theorem bool_of (P : Prop) : ∃ r : Bool, Hid (r = true ↔ P) := by
  by_cases h : P
  · exact ⟨true, ⟨fun _ => h, fun _ => rfl⟩⟩
  · exact ⟨false, ⟨fun h' => (by cases h'), fun h' => (h h').elim⟩⟩

set_option maxHeartbeats 1000000 in
theorem sod_any (x y u v r k : Int) (h : Hid ((dotB x y = true ∧ dotB u v = true → r = dotsI x y u v ∧ k = 0) ∧ (¬ (dotB x y = true ∧ dotB u v = true) → r = 0 ∧ k = 1))) (w : World) :
    Calls Try.prog 5 #[.agg #[.int .i64 x, .int .i64 y], .agg #[.int .i64 u, .int .i64 v]] w fun e w' => e = .returned (.tuple #[.int .i64 r, .int .i64 k]) ∧ Below w.heap.size w w' := by
  cases h1 : dotB x y
  · obtain ⟨rfl, rfl⟩ := h.out.2 (fun q => by rw [q.1] at h1; cases h1)
    go_enter Try.func5, Try.ntmps5
    go_wp2_with fail
    refine (spec_dot x y _).mono ?_
    rintro e w1 ⟨rfl, hb⟩
    have HB : Hid (Below w.heap.size w w1) := ((bel_alloc _ _).trans ((bel_alloc _ _).mono (by simp))).trans (hb.mono (by simp; omega))
    have C0 := cell_next hb (b := w.heap.size) (o := 0) (v := .int .i64 x) (by go_simp) (by first | (simp; done) | (simp; omega))
    have C1 := cell_next hb (b := w.heap.size) (o := 1) (v := .int .i64 y) (by go_simp) (by first | (simp; done) | (simp; omega))
    have D0 := cell_next hb (b := w.heap.size + 1) (o := 0) (v := .int .i64 u) (by go_simp) (by simp)
    have D1 := cell_next hb (b := w.heap.size + 1) (o := 1) (v := .int .i64 v) (by go_simp) (by simp)
    have hz := hb.size
    simp at hz
    clear hb
    go_wp2
    go_ret2
    exact ⟨rfl, HB.out⟩
  cases h2 : dotB u v
  · obtain ⟨rfl, rfl⟩ := h.out.2 (fun q => by rw [q.2] at h2; cases h2)
    go_enter Try.func5, Try.ntmps5
    go_wp2_with fail
    refine (spec_dot x y _).mono ?_
    rintro e w1 ⟨rfl, hb⟩
    have HB : Hid (Below w.heap.size w w1) := ((bel_alloc _ _).trans ((bel_alloc _ _).mono (by simp))).trans (hb.mono (by simp; omega))
    have C0 := cell_next hb (b := w.heap.size) (o := 0) (v := .int .i64 x) (by go_simp) (by first | (simp; done) | (simp; omega))
    have C1 := cell_next hb (b := w.heap.size) (o := 1) (v := .int .i64 y) (by go_simp) (by first | (simp; done) | (simp; omega))
    have D0 := cell_next hb (b := w.heap.size + 1) (o := 0) (v := .int .i64 u) (by go_simp) (by simp)
    have D1 := cell_next hb (b := w.heap.size + 1) (o := 1) (v := .int .i64 v) (by go_simp) (by simp)
    have hz := hb.size
    simp at hz
    clear hb
    go_wp2_with fail
    refine (spec_dot u v _).mono ?_
    rintro e w2 ⟨rfl, hb⟩
    replace HB := bel_next HB hb
    replace C0 := cell_next hb C0 (by omega)
    replace C1 := cell_next hb C1 (by omega)
    replace D0 := cell_next hb D0 (by omega)
    replace D1 := cell_next hb D1 (by omega)
    clear hb
    go_wp2
    go_ret2
    exact ⟨rfl, HB.out⟩
  obtain ⟨hr, rfl⟩ := h.out.1 ⟨h1, h2⟩
  have HR : Hid (r = dotsI x y u v) := hr
  clear hr h
  go_enter Try.func5, Try.ntmps5
  go_wp2_with fail
  refine (spec_dot x y _).mono ?_
  rintro e w1 ⟨rfl, hb⟩
  have HB : Hid (Below w.heap.size w w1) := ((bel_alloc _ _).trans ((bel_alloc _ _).mono (by simp))).trans (hb.mono (by simp; omega))
  have C0 := cell_next hb (b := w.heap.size) (o := 0) (v := .int .i64 x) (by go_simp) (by first | (simp; done) | (simp; omega))
  have C1 := cell_next hb (b := w.heap.size) (o := 1) (v := .int .i64 y) (by go_simp) (by first | (simp; done) | (simp; omega))
  have D0 := cell_next hb (b := w.heap.size + 1) (o := 0) (v := .int .i64 u) (by go_simp) (by simp)
  have D1 := cell_next hb (b := w.heap.size + 1) (o := 1) (v := .int .i64 v) (by go_simp) (by simp)
  have hz := hb.size
  simp at hz
  clear hb
  go_wp2_with fail
  refine (spec_dot u v _).mono ?_
  rintro e w2 ⟨rfl, hb⟩
  replace HB := bel_next HB hb
  replace C0 := cell_next hb C0 (by omega)
  replace C1 := cell_next hb C1 (by omega)
  replace D0 := cell_next hb D0 (by omega)
  replace D1 := cell_next hb D1 (by omega)
  clear hb
  go_wp2_with fail
  refine (l01dots_any x y u v _).mono ?_
  rintro e w3 ⟨rfl, hb⟩
  replace HB := bel_next HB hb
  clear hb C0 C1 D0 D1
  go_wp2
  go_ret2
  exact ⟨ret_ints HR.out.symm rfl, HB.out⟩

set_option maxHeartbeats 1000000 in
theorem iod_any (x y u v r k : Int) (h : Hid ((dotB x y = true ∧ dotB u v = true → r = dotsI x y u v ∧ k = 0) ∧ (¬ (dotB x y = true ∧ dotB u v = true) → r = 0 ∧ k = 1))) (w : World) :
    Calls Try.prog 7 #[.agg #[.int .i64 x, .int .i64 y], .agg #[.int .i64 u, .int .i64 v]] w fun e w' => e = .returned (.tuple #[.int .i64 r, .int .i64 k]) ∧ Below w.heap.size w w' := by
  cases h1 : dotB x y
  · obtain ⟨rfl, rfl⟩ := h.out.2 (fun q => by rw [q.1] at h1; cases h1)
    go_enter Try.func7, Try.ntmps7
    go_wp2_with fail
    refine (impl_dot x y _).mono ?_
    rintro e w1 ⟨rfl, hb⟩
    have HB : Hid (Below w.heap.size w w1) := ((bel_alloc _ _).trans ((bel_alloc _ _).mono (by simp))).trans (hb.mono (by simp; omega))
    have C0 := cell_next hb (b := w.heap.size) (o := 0) (v := .int .i64 x) (by go_simp) (by first | (simp; done) | (simp; omega))
    have C1 := cell_next hb (b := w.heap.size) (o := 1) (v := .int .i64 y) (by go_simp) (by first | (simp; done) | (simp; omega))
    have D0 := cell_next hb (b := w.heap.size + 1) (o := 0) (v := .int .i64 u) (by go_simp) (by simp)
    have D1 := cell_next hb (b := w.heap.size + 1) (o := 1) (v := .int .i64 v) (by go_simp) (by simp)
    have hz := hb.size
    simp at hz
    clear hb
    go_wp2
    go_ret2
    exact ⟨rfl, HB.out⟩
  cases h2 : dotB u v
  · obtain ⟨rfl, rfl⟩ := h.out.2 (fun q => by rw [q.2] at h2; cases h2)
    go_enter Try.func7, Try.ntmps7
    go_wp2_with fail
    refine (impl_dot x y _).mono ?_
    rintro e w1 ⟨rfl, hb⟩
    have HB : Hid (Below w.heap.size w w1) := ((bel_alloc _ _).trans ((bel_alloc _ _).mono (by simp))).trans (hb.mono (by simp; omega))
    have C0 := cell_next hb (b := w.heap.size) (o := 0) (v := .int .i64 x) (by go_simp) (by first | (simp; done) | (simp; omega))
    have C1 := cell_next hb (b := w.heap.size) (o := 1) (v := .int .i64 y) (by go_simp) (by first | (simp; done) | (simp; omega))
    have D0 := cell_next hb (b := w.heap.size + 1) (o := 0) (v := .int .i64 u) (by go_simp) (by simp)
    have D1 := cell_next hb (b := w.heap.size + 1) (o := 1) (v := .int .i64 v) (by go_simp) (by simp)
    have hz := hb.size
    simp at hz
    clear hb
    go_wp2_with fail
    refine (impl_dot u v _).mono ?_
    rintro e w2 ⟨rfl, hb⟩
    replace HB := bel_next HB hb
    replace C0 := cell_next hb C0 (by omega)
    replace C1 := cell_next hb C1 (by omega)
    replace D0 := cell_next hb D0 (by omega)
    replace D1 := cell_next hb D1 (by omega)
    clear hb
    go_wp2
    go_ret2
    exact ⟨rfl, HB.out⟩
  obtain ⟨hr, rfl⟩ := h.out.1 ⟨h1, h2⟩
  have HR : Hid (r = dotsI x y u v) := hr
  clear hr h
  go_enter Try.func7, Try.ntmps7
  go_wp2_with fail
  refine (impl_dot x y _).mono ?_
  rintro e w1 ⟨rfl, hb⟩
  have HB : Hid (Below w.heap.size w w1) := ((bel_alloc _ _).trans ((bel_alloc _ _).mono (by simp))).trans (hb.mono (by simp; omega))
  have C0 := cell_next hb (b := w.heap.size) (o := 0) (v := .int .i64 x) (by go_simp) (by first | (simp; done) | (simp; omega))
  have C1 := cell_next hb (b := w.heap.size) (o := 1) (v := .int .i64 y) (by go_simp) (by first | (simp; done) | (simp; omega))
  have D0 := cell_next hb (b := w.heap.size + 1) (o := 0) (v := .int .i64 u) (by go_simp) (by simp)
  have D1 := cell_next hb (b := w.heap.size + 1) (o := 1) (v := .int .i64 v) (by go_simp) (by simp)
  have hz := hb.size
  simp at hz
  clear hb
  go_wp2_with fail
  refine (impl_dot u v _).mono ?_
  rintro e w2 ⟨rfl, hb⟩
  replace HB := bel_next HB hb
  replace C0 := cell_next hb C0 (by omega)
  replace C1 := cell_next hb C1 (by omega)
  replace D0 := cell_next hb D0 (by omega)
  replace D1 := cell_next hb D1 (by omega)
  clear hb
  go_wp2_with fail
  refine (cmpDots_any x y u v _).mono ?_
  rintro e w3 ⟨rfl, hb⟩
  replace HB := bel_next HB hb
  clear hb C0 C1 D0 D1
  go_wp2
  go_ret2
  exact ⟨ret_ints HR.out.symm rfl, HB.out⟩

set_option maxHeartbeats 2000000 in
theorem law_od (x y : Int) (_ : (Lit.int .i64 x).wf = true) (_ : (Lit.int .i64 y).wf = true) (u v : Int) (_ : (Lit.int .i64 u).wf = true) (_ : (Lit.int .i64 v).wf = true) (w : World) :
    Calls Try.prog 3 #[.agg #[.int .i64 x, .int .i64 y], .agg #[.int .i64 u, .int .i64 v]] w fun e w' => e = .returned (.bool true) ∧ Below w.heap.size w w' := by
  obtain ⟨r, k, h⟩ : ∃ r k : Int, Hid ((dotB x y = true ∧ dotB u v = true → r = dotsI x y u v ∧ k = 0) ∧ (¬ (dotB x y = true ∧ dotB u v = true) → r = 0 ∧ k = 1)) := by
    by_cases q : dotB x y = true ∧ dotB u v = true
    · exact ⟨dotsI x y u v, 0, fun _ => ⟨rfl, rfl⟩, fun n => (n q).elim⟩
    · exact ⟨0, 1, fun n => (q n).elim, fun _ => ⟨rfl, rfl⟩⟩
  go_enter Try.func3, Try.ntmps3
  go_wp2_with fail
  have BA : Hid (Cells2 ((w.alloc (.cells #[.int .i64 x, .int .i64 y] 23)).alloc (.cells #[.int .i64 u, .int .i64 v] 23)) w.heap.size x y) := ⟨by go_simp, by go_simp⟩
  have BB : Hid (Cells2 ((w.alloc (.cells #[.int .i64 x, .int .i64 y] 23)).alloc (.cells #[.int .i64 u, .int .i64 v] 23)) (w.heap.size + 1) u v) := ⟨by go_simp, by go_simp⟩
  have LA : Hid (w.heap.size < ((w.alloc (.cells #[.int .i64 x, .int .i64 y] 23)).alloc (.cells #[.int .i64 u, .int .i64 v] 23)).heap.size) := by show _ < _; simp; omega
  have LB : Hid (w.heap.size + 1 < ((w.alloc (.cells #[.int .i64 x, .int .i64 y] 23)).alloc (.cells #[.int .i64 u, .int .i64 v] 23)).heap.size) := by show _ < _; simp
  have HB : Hid (Below w.heap.size w ((w.alloc (.cells #[.int .i64 x, .int .i64 y] 23)).alloc (.cells #[.int .i64 u, .int .i64 v] 23))) := (bel_alloc _ _).trans ((bel_alloc _ _).mono (by simp))
  refine wp_region_held_drew (S := (fun w' => (w'.cell? ⟨w.heap.size, 0, none⟩ = some (.int .i64 x) ∧ w'.cell? ⟨w.heap.size, 1, none⟩ = some (.int .i64 y)) ∧ (w'.cell? ⟨w.heap.size + 1, 0, none⟩ = some (.int .i64 u) ∧ w'.cell? ⟨w.heap.size + 1, 1, none⟩ = some (.int .i64 v)) ∧ (w.heap.size < w'.heap.size) ∧ (w.heap.size + 1 < w'.heap.size) ∧ Below w.heap.size w w')) (by kernel_rfl) ?_ (fun hHeld => ?_)
  · (try dsimp only)
    exact ⟨BA.out, BB.out, LA.out, LB.out, (bel_next HB (bel_drew _)).out⟩
  refine wpAnyH_take (i := 0) (v := ?_) rfl (by kernel_rfl) (by kernel_rfl) (by kernel_rfl) (fun _ _ _ h => h) (Or.inl ⟨by rfl, ?_⟩) (by assumption) ?_
  rotate_left
  · intro w' hSw
    (try dsimp only at hSw)
    go_simp
    all_goals (try with_reducible rfl)
  (try simp only [Act.put, List.getElem_toArray, List.getElem_cons_zero, List.getElem_cons_succ, List.setIfInBounds_toArray, List.set_cons_zero, List.set_cons_succ])
  refine wpAnyH_take (i := 2) (v := ?_) rfl (by kernel_rfl) (by kernel_rfl) (by kernel_rfl) (fun _ _ _ h => h) (Or.inl ⟨by rfl, ?_⟩) (by assumption) ?_
  rotate_left
  · intro w' hSw
    (try dsimp only at hSw)
    go_simp
    all_goals (try with_reducible rfl)
  (try simp only [Act.put, List.getElem_toArray, List.getElem_cons_zero, List.getElem_cons_succ, List.setIfInBounds_toArray, List.set_cons_zero, List.set_cons_succ])
  refine wpAnyH_ready (rs := [1]) (by kernel_rfl) (by simp) ?_
  refine AllReadyH.cons rfl (fun K hK => ?_) AllReadyH.nil
  (try simp only [Act.put, List.getElem_toArray, List.getElem_cons_zero, List.getElem_cons_succ, List.setIfInBounds_toArray, List.set_cons_zero, List.set_cons_succ])
  go_simp
  (go_at_call 6; refine (toDot_any x y _).mono ?_; rintro e w1 ⟨rfl, hb⟩)
  (try simp only [])
  refine hK.out _ _ ?_ (fun hHeld' => ?_)
  · (try dsimp only)
    exact ⟨c2_next hHeld.1 hb hHeld.2.2.1, c2_next hHeld.2.1 hb hHeld.2.2.2.1, lt_next hHeld.2.2.1 hb, lt_next hHeld.2.2.2.1 hb, bel_next hHeld.2.2.2.2 hb⟩
  clear hK K
  clear hHeld
  have hHeld := hHeld'
  clear hHeld'
  clear hb
  (try simp only [Act.put, List.getElem_toArray, List.getElem_cons_zero, List.getElem_cons_succ, List.setIfInBounds_toArray, List.set_cons_zero, List.set_cons_succ])
  refine wpAnyH_ready (rs := [3]) (by kernel_rfl) (by simp) ?_
  refine AllReadyH.cons rfl (fun K hK => ?_) AllReadyH.nil
  (try simp only [Act.put, List.getElem_toArray, List.getElem_cons_zero, List.getElem_cons_succ, List.setIfInBounds_toArray, List.set_cons_zero, List.set_cons_succ])
  go_simp
  (go_at_call 6; refine (toDot_any u v _).mono ?_; rintro e w2 ⟨rfl, hb⟩)
  (try simp only [])
  refine hK.out _ _ ?_ (fun hHeld' => ?_)
  · (try dsimp only)
    exact ⟨c2_next hHeld.1 hb hHeld.2.2.1, c2_next hHeld.2.1 hb hHeld.2.2.2.1, lt_next hHeld.2.2.1 hb, lt_next hHeld.2.2.2.1 hb, bel_next hHeld.2.2.2.2 hb⟩
  clear hK K
  clear hHeld
  have hHeld := hHeld'
  clear hHeld'
  clear hb
  (try simp only [Act.put, List.getElem_toArray, List.getElem_cons_zero, List.getElem_cons_succ, List.setIfInBounds_toArray, List.set_cons_zero, List.set_cons_succ])
  refine wpAnyH_ready (rs := [4]) (by kernel_rfl) (by simp) ?_
  refine AllReadyH.cons rfl (fun K hK => ?_) AllReadyH.nil
  (try simp only [Act.put, List.getElem_toArray, List.getElem_cons_zero, List.getElem_cons_succ, List.setIfInBounds_toArray, List.set_cons_zero, List.set_cons_succ])
  go_simp
  (go_at_call 5; refine (sod_any x y u v r k h _).mono ?_; rintro e w3 ⟨rfl, hb⟩)
  (try simp only [])
  refine hK.out _ _ ?_ (fun hHeld' => ?_)
  · (try dsimp only)
    exact ⟨c2_next hHeld.1 hb hHeld.2.2.1, c2_next hHeld.2.1 hb hHeld.2.2.2.1, lt_next hHeld.2.2.1 hb, lt_next hHeld.2.2.2.1 hb, bel_next hHeld.2.2.2.2 hb⟩
  clear hK K
  clear hHeld
  have hHeld := hHeld'
  clear hHeld'
  clear hb
  (try simp only [Act.put, List.getElem_toArray, List.getElem_cons_zero, List.getElem_cons_succ, List.setIfInBounds_toArray, List.set_cons_zero, List.set_cons_succ])
  refine wpAnyH_take (i := 5) (v := ?_) rfl (by kernel_rfl) (by kernel_rfl) (by kernel_rfl) (fun _ _ _ h => h) (Or.inl ⟨by rfl, ?_⟩) (by assumption) ?_
  rotate_left
  · intro w' hSw
    (try dsimp only at hSw)
    go_simp
    all_goals (try with_reducible rfl)
  (try simp only [Act.put, List.getElem_toArray, List.getElem_cons_zero, List.getElem_cons_succ, List.setIfInBounds_toArray, List.set_cons_zero, List.set_cons_succ])
  refine wpAnyH_take (i := 6) (v := ?_) rfl (by kernel_rfl) (by kernel_rfl) (by kernel_rfl) (fun _ _ _ h => h) (Or.inl ⟨by rfl, ?_⟩) (by assumption) ?_
  rotate_left
  · intro w' hSw
    (try dsimp only at hSw)
    go_simp
    all_goals (try with_reducible rfl)
  (try simp only [Act.put, List.getElem_toArray, List.getElem_cons_zero, List.getElem_cons_succ, List.setIfInBounds_toArray, List.set_cons_zero, List.set_cons_succ])
  refine wpAnyH_take (i := 7) (v := ?_) rfl (by kernel_rfl) (by kernel_rfl) (by kernel_rfl) (fun _ _ _ h => h) (Or.inl ⟨by rfl, ?_⟩) (by assumption) ?_
  rotate_left
  · intro w' hSw
    (try dsimp only at hSw)
    go_simp
    all_goals (try with_reducible rfl)
  (try simp only [Act.put, List.getElem_toArray, List.getElem_cons_zero, List.getElem_cons_succ, List.setIfInBounds_toArray, List.set_cons_zero, List.set_cons_succ])
  refine wpAnyH_take (i := 8) (v := ?_) rfl (by kernel_rfl) (by kernel_rfl) (by kernel_rfl) (fun _ _ _ h => h) (Or.inl ⟨by rfl, ?_⟩) (by assumption) ?_
  rotate_left
  · intro w' hSw
    (try dsimp only at hSw)
    go_simp
    all_goals (try with_reducible rfl)
  (try simp only [Act.put, List.getElem_toArray, List.getElem_cons_zero, List.getElem_cons_succ, List.setIfInBounds_toArray, List.set_cons_zero, List.set_cons_succ])
  refine wpAnyH_take (i := 9) (v := ?_) rfl (by kernel_rfl) (by kernel_rfl) (by kernel_rfl) (fun _ _ _ h => h) (Or.inl ⟨by rfl, ?_⟩) (by assumption) ?_
  rotate_left
  · intro w' hSw
    (try dsimp only at hSw)
    go_simp
    all_goals (try with_reducible rfl)
  (try simp only [Act.put, List.getElem_toArray, List.getElem_cons_zero, List.getElem_cons_succ, List.setIfInBounds_toArray, List.set_cons_zero, List.set_cons_succ])
  refine wpAnyH_done (by kernel_rfl) ?_ _
  replace BA : Hid _ := hHeld.1
  replace BB : Hid _ := hHeld.2.1
  replace LA : Hid _ := hHeld.2.2.1
  replace LB : Hid _ := hHeld.2.2.2.1
  replace HB : Hid _ := hHeld.2.2.2.2
  clear hHeld
  go_wp2_with fail
  refine wp_region_held_drew (S := (fun w' => (w'.cell? ⟨w.heap.size, 0, none⟩ = some (.int .i64 x) ∧ w'.cell? ⟨w.heap.size, 1, none⟩ = some (.int .i64 y)) ∧ (w'.cell? ⟨w.heap.size + 1, 0, none⟩ = some (.int .i64 u) ∧ w'.cell? ⟨w.heap.size + 1, 1, none⟩ = some (.int .i64 v)) ∧ (w.heap.size < w'.heap.size) ∧ (w.heap.size + 1 < w'.heap.size) ∧ Below w.heap.size w w')) (by kernel_rfl) ?_ (fun hHeld => ?_)
  · (try dsimp only)
    exact ⟨BA.out, BB.out, LA.out, LB.out, (bel_next HB (bel_drew _)).out⟩
  refine wpAnyH_take (i := 0) (v := ?_) rfl (by kernel_rfl) (by kernel_rfl) (by kernel_rfl) (fun _ _ _ h => h) (Or.inl ⟨by rfl, ?_⟩) (by assumption) ?_
  rotate_left
  · intro w' hSw
    (try dsimp only at hSw)
    go_simp
    all_goals (try with_reducible rfl)
  (try simp only [Act.put, List.getElem_toArray, List.getElem_cons_zero, List.getElem_cons_succ, List.setIfInBounds_toArray, List.set_cons_zero, List.set_cons_succ])
  refine wpAnyH_take (i := 2) (v := ?_) rfl (by kernel_rfl) (by kernel_rfl) (by kernel_rfl) (fun _ _ _ h => h) (Or.inl ⟨by rfl, ?_⟩) (by assumption) ?_
  rotate_left
  · intro w' hSw
    (try dsimp only at hSw)
    go_simp
    all_goals (try with_reducible rfl)
  (try simp only [Act.put, List.getElem_toArray, List.getElem_cons_zero, List.getElem_cons_succ, List.setIfInBounds_toArray, List.set_cons_zero, List.set_cons_succ])
  refine wpAnyH_ready (rs := [1]) (by kernel_rfl) (by simp) ?_
  refine AllReadyH.cons rfl (fun K hK => ?_) AllReadyH.nil
  (try simp only [Act.put, List.getElem_toArray, List.getElem_cons_zero, List.getElem_cons_succ, List.setIfInBounds_toArray, List.set_cons_zero, List.set_cons_succ])
  go_simp
  (go_at_call 6; refine (toDot_any x y _).mono ?_; rintro e w4 ⟨rfl, hb⟩)
  (try simp only [])
  refine hK.out _ _ ?_ (fun hHeld' => ?_)
  · (try dsimp only)
    exact ⟨c2_next hHeld.1 hb hHeld.2.2.1, c2_next hHeld.2.1 hb hHeld.2.2.2.1, lt_next hHeld.2.2.1 hb, lt_next hHeld.2.2.2.1 hb, bel_next hHeld.2.2.2.2 hb⟩
  clear hK K
  clear hHeld
  have hHeld := hHeld'
  clear hHeld'
  clear hb
  (try simp only [Act.put, List.getElem_toArray, List.getElem_cons_zero, List.getElem_cons_succ, List.setIfInBounds_toArray, List.set_cons_zero, List.set_cons_succ])
  refine wpAnyH_ready (rs := [3]) (by kernel_rfl) (by simp) ?_
  refine AllReadyH.cons rfl (fun K hK => ?_) AllReadyH.nil
  (try simp only [Act.put, List.getElem_toArray, List.getElem_cons_zero, List.getElem_cons_succ, List.setIfInBounds_toArray, List.set_cons_zero, List.set_cons_succ])
  go_simp
  (go_at_call 6; refine (toDot_any u v _).mono ?_; rintro e w5 ⟨rfl, hb⟩)
  (try simp only [])
  refine hK.out _ _ ?_ (fun hHeld' => ?_)
  · (try dsimp only)
    exact ⟨c2_next hHeld.1 hb hHeld.2.2.1, c2_next hHeld.2.1 hb hHeld.2.2.2.1, lt_next hHeld.2.2.1 hb, lt_next hHeld.2.2.2.1 hb, bel_next hHeld.2.2.2.2 hb⟩
  clear hK K
  clear hHeld
  have hHeld := hHeld'
  clear hHeld'
  clear hb
  (try simp only [Act.put, List.getElem_toArray, List.getElem_cons_zero, List.getElem_cons_succ, List.setIfInBounds_toArray, List.set_cons_zero, List.set_cons_succ])
  refine wpAnyH_ready (rs := [4]) (by kernel_rfl) (by simp) ?_
  refine AllReadyH.cons rfl (fun K hK => ?_) AllReadyH.nil
  (try simp only [Act.put, List.getElem_toArray, List.getElem_cons_zero, List.getElem_cons_succ, List.setIfInBounds_toArray, List.set_cons_zero, List.set_cons_succ])
  go_simp
  (go_at_call 7; refine (iod_any x y u v r k h _).mono ?_; rintro e w6 ⟨rfl, hb⟩)
  (try simp only [])
  refine hK.out _ _ ?_ (fun hHeld' => ?_)
  · (try dsimp only)
    exact ⟨c2_next hHeld.1 hb hHeld.2.2.1, c2_next hHeld.2.1 hb hHeld.2.2.2.1, lt_next hHeld.2.2.1 hb, lt_next hHeld.2.2.2.1 hb, bel_next hHeld.2.2.2.2 hb⟩
  clear hK K
  clear hHeld
  have hHeld := hHeld'
  clear hHeld'
  clear hb
  (try simp only [Act.put, List.getElem_toArray, List.getElem_cons_zero, List.getElem_cons_succ, List.setIfInBounds_toArray, List.set_cons_zero, List.set_cons_succ])
  refine wpAnyH_take (i := 5) (v := ?_) rfl (by kernel_rfl) (by kernel_rfl) (by kernel_rfl) (fun _ _ _ h => h) (Or.inl ⟨by rfl, ?_⟩) (by assumption) ?_
  rotate_left
  · intro w' hSw
    (try dsimp only at hSw)
    go_simp
    all_goals (try with_reducible rfl)
  (try simp only [Act.put, List.getElem_toArray, List.getElem_cons_zero, List.getElem_cons_succ, List.setIfInBounds_toArray, List.set_cons_zero, List.set_cons_succ])
  refine wpAnyH_take (i := 6) (v := ?_) rfl (by kernel_rfl) (by kernel_rfl) (by kernel_rfl) (fun _ _ _ h => h) (Or.inl ⟨by rfl, ?_⟩) (by assumption) ?_
  rotate_left
  · intro w' hSw
    (try dsimp only at hSw)
    go_simp
    all_goals (try with_reducible rfl)
  (try simp only [Act.put, List.getElem_toArray, List.getElem_cons_zero, List.getElem_cons_succ, List.setIfInBounds_toArray, List.set_cons_zero, List.set_cons_succ])
  refine wpAnyH_take (i := 7) (v := ?_) rfl (by kernel_rfl) (by kernel_rfl) (by kernel_rfl) (fun _ _ _ h => h) (Or.inl ⟨by rfl, ?_⟩) (by assumption) ?_
  rotate_left
  · intro w' hSw
    (try dsimp only at hSw)
    go_simp
    all_goals (try with_reducible rfl)
  (try simp only [Act.put, List.getElem_toArray, List.getElem_cons_zero, List.getElem_cons_succ, List.setIfInBounds_toArray, List.set_cons_zero, List.set_cons_succ])
  refine wpAnyH_take (i := 8) (v := ?_) rfl (by kernel_rfl) (by kernel_rfl) (by kernel_rfl) (fun _ _ _ h => h) (Or.inl ⟨by rfl, ?_⟩) (by assumption) ?_
  rotate_left
  · intro w' hSw
    (try dsimp only at hSw)
    go_simp
    all_goals (try with_reducible rfl)
  (try simp only [Act.put, List.getElem_toArray, List.getElem_cons_zero, List.getElem_cons_succ, List.setIfInBounds_toArray, List.set_cons_zero, List.set_cons_succ])
  refine wpAnyH_take (i := 9) (v := ?_) rfl (by kernel_rfl) (by kernel_rfl) (by kernel_rfl) (fun _ _ _ h => h) (Or.inl ⟨by rfl, ?_⟩) (by assumption) ?_
  rotate_left
  · intro w' hSw
    (try dsimp only at hSw)
    go_simp
    all_goals (try with_reducible rfl)
  (try simp only [Act.put, List.getElem_toArray, List.getElem_cons_zero, List.getElem_cons_succ, List.setIfInBounds_toArray, List.set_cons_zero, List.set_cons_succ])
  refine wpAnyH_done (by kernel_rfl) ?_ _
  replace BA : Hid _ := hHeld.1
  replace BB : Hid _ := hHeld.2.1
  replace LA : Hid _ := hHeld.2.2.1
  replace LB : Hid _ := hHeld.2.2.2.1
  replace HB : Hid _ := hHeld.2.2.2.2
  clear hHeld
  clear BA BB LA LB h
  go_wp2
  go_ret
  exact ⟨rfl, HB.out⟩
end Go.Proofs.Ytkecngfblfgjmaa

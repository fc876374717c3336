/- Covers, of both sides. -/
import Derived.Test.YtcmniplbiliobaaDoorRows
import Derived.WalkKit
import Derived.Test.YtcmniplbiliobaaDoorJb
import Derived.Test.YtcmniplbiliobaaDoorLj
import Derived.Test.YtcmniplbiliobaaDoorSm
import Derived.WalkSpells
import Derived.WalkLawsBesides
import Derived.Deep.QuietTactic
import Derived.BigQuiet
import Derived.Deep.RegionHeld3
import Derived.LoopN
namespace Go.Proofs.YtcmniplbiliobaaDoor
open Go.RowKit
set_option linter.unusedSimpArgs false
set_option linter.unusedVariables false

theorem sj_len (a b c x y z : Int) (l l2 : List Sib) : (sj a b c x y z l l2).length ≤ l.length + l2.length := by
  unfold sj
  rw [pts_len]
  have h1 : (stay x y z l l2).length ≤ l.length := List.length_filter_le _ _
  have h2 : (fil a b c l2).length ≤ l2.length := List.length_filter_le _ _
  omega
def CR (k0 k1 : Bool) (l l2 : List Sib) (a b c x y z : Int) (r : Bool) (code : Int) : Prop :=
  (¬ (k0 = true ∧ k1 = true) → r = false ∧ code = 1) ∧ (k0 = true → k1 = true → code = 0 ∧ (r = true ↔ Same (sj a b c x y z l l2) l (max a x) (max b y) (max c z) a b c))
theorem cr_of (k0 k1 : Bool) (l l2 : List Sib) (a b c x y z : Int) : ∃ r code, Hid (CR k0 k1 l l2 a b c x y z r code) := by
  by_cases h : k0 = true ∧ k1 = true
  · obtain ⟨r, hr⟩ := bool_of (Same (sj a b c x y z l l2) l (max a x) (max b y) (max c z) a b c)
    exact ⟨r, 0, fun h' => (h' h).elim, fun _ _ => ⟨rfl, hr.out⟩⟩
  · exact ⟨false, 1, fun _ => ⟨rfl, rfl⟩, fun h1 h2 => (h ⟨h1, h2⟩).elim⟩

set_option maxHeartbeats 4000000 in
theorem implCovers_any (cap cp : Nat) (ao bo : Option Addr) (l l2 : List Sib) (a b c x y z : Int) (k0 k1 : Bool) (hO : Hid (k0 = true ↔ OkP l a b c)) (hP : Hid (k1 = true ↔ OkP l2 x y z)) (r : Bool) (code : Int) (hJ : Hid (CR k0 k1 l l2 a b c x y z r code)) (w : World) (hm : (l.length : Int) ≤ 1048576) (hm2 : (l2.length : Int) ≤ 1048576) (hc2 : l2.length ≤ cp) (hr0 : SibRow w ao l) (hs0 : SibRow w bo l2) :
    Calls Tryd.prog 15 #[.agg #[.slice ao l.length cap, .int .i64 a, .int .i64 b, .int .i64 c], .agg #[.slice bo l2.length cp, .int .i64 x, .int .i64 y, .int .i64 z]] w fun e w' => e = .returned (.tuple #[.bool r, .int .i64 code]) ∧ Below w.heap.size w w' := by
  have RW : Hid (SibRow w ao l) := hr0
  have SW : Hid (SibRow w bo l2) := hs0
  clear hr0 hs0
  have HB0 : Hid (Below w.heap.size w ((w.alloc (.cells #[.slice ao l.length cap, .int .i64 a, .int .i64 b, .int .i64 c] 32)).alloc (.cells #[.slice bo l2.length cp, .int .i64 x, .int .i64 y, .int .i64 z] 32))) := (bel_alloc _ _).trans ((bel_alloc _ _).mono (by simp))
  have BA0 : Hid (Cells4 ((w.alloc (.cells #[.slice ao l.length cap, .int .i64 a, .int .i64 b, .int .i64 c] 32)).alloc (.cells #[.slice bo l2.length cp, .int .i64 x, .int .i64 y, .int .i64 z] 32)) w.heap.size (.slice ao l.length cap) a b c) := ⟨by go_simp, by go_simp, by go_simp, by go_simp⟩
  have BB0 : Hid (Cells4 ((w.alloc (.cells #[.slice ao l.length cap, .int .i64 a, .int .i64 b, .int .i64 c] 32)).alloc (.cells #[.slice bo l2.length cp, .int .i64 x, .int .i64 y, .int .i64 z] 32)) (w.heap.size + 1) (.slice bo l2.length cp) x y z) := ⟨by go_simp, by go_simp, by go_simp, by go_simp⟩
  have LA0 : Hid (w.heap.size < ((w.alloc (.cells #[.slice ao l.length cap, .int .i64 a, .int .i64 b, .int .i64 c] 32)).alloc (.cells #[.slice bo l2.length cp, .int .i64 x, .int .i64 y, .int .i64 z] 32)).heap.size) := by show _ < _; simp; omega
  have LB0 : Hid (w.heap.size + 1 < ((w.alloc (.cells #[.slice ao l.length cap, .int .i64 a, .int .i64 b, .int .i64 c] 32)).alloc (.cells #[.slice bo l2.length cp, .int .i64 x, .int .i64 y, .int .i64 z] 32)).heap.size) := by show _ < _; simp
  go_enter Tryd.func15, Tryd.ntmps15
  go_wp2_with fail
  generalize ((w.alloc (.cells #[.slice ao l.length cap, .int .i64 a, .int .i64 b, .int .i64 c] 32)).alloc (.cells #[.slice bo l2.length cp, .int .i64 x, .int .i64 y, .int .i64 z] 32)) = W0 at *
  refine (implOK_any cap ao l a b c k0 hO _ hm (RW.out.next HB0.out)).mono ?_
  rintro e w1 ⟨rfl, hb⟩
  replace HB0 := bel_next HB0 hb
  replace BA0 := c4_next BA0 hb LA0
  replace BB0 := c4_next BB0 hb LB0
  replace LA0 := lt_next LA0 hb
  replace LB0 := lt_next LB0 hb
  obtain ⟨cb0, cb1, cb2, cb3⟩ := BB0.out
  clear hb
  cases k0
  · obtain ⟨rfl, rfl⟩ := hJ.out.1 (fun h => by cases h.1)
    go_wp2
    go_ret2
    exact ⟨rfl, HB0.out⟩
  have HOK : Hid (OkP l a b c) := hO.out.1 rfl
  clear hO
  go_wp2_with fail
  refine (implOK_any cp bo l2 x y z k1 hP _ hm2 (SW.out.next HB0.out)).mono ?_
  rintro e w2 ⟨rfl, hb⟩
  have HB2 := bel_next HB0 hb
  replace BA0 := c4_next BA0 hb LA0
  replace BB0 := c4_next BB0 hb LB0
  replace LB0 := lt_next LB0 hb
  clear cb0 cb1 cb2 cb3 hb HB0 LA0
  cases k1
  · obtain ⟨rfl, rfl⟩ := hJ.out.1 (fun h => by cases h.2)
    go_wp2
    go_ret2
    exact ⟨rfl, HB2.out⟩
  have HPK : Hid (OkP l2 x y z) := hP.out.1 rfl
  obtain ⟨rfl, HR0⟩ := hJ.out.2 rfl rfl
  have HR : Hid (r = true ↔ Same (sj a b c x y z l l2) l (max a x) (max b y) (max c z) a b c) := HR0
  have HSL : ((sj a b c x y z l l2).length : Int) ≤ 1048576 := by
    have h1 := sj_len a b c x y z l l2
    have h2 := HOK.out.1
    have h3 := HPK.out.1
    omega
  obtain ⟨ca0, ca1, ca2, ca3⟩ := BA0.out
  obtain ⟨cc0, cc1, cc2, cc3⟩ := BB0.out
  have hz2 := LB0.out
  clear hP hJ HR0 BA0 BB0 LB0
  go_wp2
  refine wp_region_held_drew (S := (fun w' => (w'.cell? ⟨w.heap.size, 0, none⟩ = some (.slice ao l.length cap) ∧ w'.cell? ⟨w.heap.size, 1, none⟩ = some (.int .i64 a) ∧ w'.cell? ⟨w.heap.size, 2, none⟩ = some (.int .i64 b) ∧ w'.cell? ⟨w.heap.size, 3, none⟩ = some (.int .i64 c)) ∧ (w'.cell? ⟨w.heap.size + 1, 0, none⟩ = some (.slice bo l2.length cp) ∧ w'.cell? ⟨w.heap.size + 1, 1, none⟩ = some (.int .i64 x) ∧ w'.cell? ⟨w.heap.size + 1, 2, none⟩ = some (.int .i64 y) ∧ w'.cell? ⟨w.heap.size + 1, 3, none⟩ = some (.int .i64 z)) ∧ w.heap.size + 1 < w'.heap.size ∧ Below w.heap.size w w')) (by kernel_rfl) ?_ (fun hHeld => ?_)
  · (try dsimp only)
    exact ⟨⟨ca0, ca1, ca2, ca3⟩, ⟨cc0, cc1, cc2, cc3⟩, hz2, (bel_next HB2 (bel_drew _)).out⟩
  refine wpAnyH_take (i := 0) (v := ?_) rfl (by kernel_rfl) (by kernel_rfl) (by kernel_rfl) (fun _ _ _ h => h) (Or.inl ⟨by rfl, ?_⟩) (by assumption) ?_
  rotate_left
  · intro w' hSw
    (try dsimp only at hSw)
    go_simp
    all_goals (try with_reducible rfl)
  (try simp only [Act.put, List.getElem_toArray, List.getElem_cons_zero, List.getElem_cons_succ, List.setIfInBounds_toArray, List.set_cons_zero, List.set_cons_succ])
  refine wpAnyH_take (i := 1) (v := ?_) rfl (by kernel_rfl) (by kernel_rfl) (by kernel_rfl) (fun _ _ _ h => h) (Or.inl ⟨by rfl, ?_⟩) (by assumption) ?_
  rotate_left
  · intro w' hSw
    (try dsimp only at hSw)
    go_simp
    all_goals (try with_reducible rfl)
  (try simp only [Act.put, List.getElem_toArray, List.getElem_cons_zero, List.getElem_cons_succ, List.setIfInBounds_toArray, List.set_cons_zero, List.set_cons_succ])
  refine wpAnyH_take (i := 3) (v := ?_) rfl (by kernel_rfl) (by kernel_rfl) (by kernel_rfl) (fun _ _ _ h => h) (Or.inl ⟨by rfl, ?_⟩) (by assumption) ?_
  rotate_left
  · intro w' hSw
    (try dsimp only at hSw)
    go_simp
    all_goals (try with_reducible rfl)
  (try simp only [Act.put, List.getElem_toArray, List.getElem_cons_zero, List.getElem_cons_succ, List.setIfInBounds_toArray, List.set_cons_zero, List.set_cons_succ])
  refine wpAnyH_ready (rs := [2]) (by kernel_rfl) (by simp) ?_
  refine AllReadyH.cons rfl (fun K hK => ?_) AllReadyH.nil
  (try simp only [Act.put, List.getElem_toArray, List.getElem_cons_zero, List.getElem_cons_succ, List.setIfInBounds_toArray, List.set_cons_zero, List.set_cons_succ])
  go_simp
  (go_at_call 40; refine (joined_sj cap cp ao bo l l2 a b c x y z _ HOK.out HPK.out hc2 (RW.out.next hHeld.2.2.2) (SW.out.next hHeld.2.2.2)).mono ?_; rintro e w4 ⟨v, rfl, hg, ho⟩; obtain ⟨vo, vc, rfl, hrow, _⟩ := owned_row ho; have hb := hg.below (Nat.le_refl _) (fun k hk => absurd hk Gro.none_ne); have R4 : Hid (SibRow w4 vo (sj a b c x y z l l2)) := hrow)
  (try simp only [])
  refine hK.out _ _ ?_ (fun hHeld' => ?_)
  · (try dsimp only)
    exact ⟨c4_next hHeld.1 hb (Nat.lt_trans (by omega) hHeld.2.2.1), c4_next hHeld.2.1 hb hHeld.2.2.1, Nat.lt_of_lt_of_le hHeld.2.2.1 hb.size, bel_next hHeld.2.2.2 hb⟩
  clear hK K
  clear hHeld
  have hHeld := hHeld'
  clear hHeld'
  clear hb ho hg hrow
  (try simp only [Act.put, List.getElem_toArray, List.getElem_cons_zero, List.getElem_cons_succ, List.setIfInBounds_toArray, List.set_cons_zero, List.set_cons_succ])
  refine wpAnyH_ready (rs := [4]) (by kernel_rfl) (by simp) ?_
  refine AllReadyH.cons rfl (fun K hK => ?_) AllReadyH.nil
  (try simp only [Act.put, List.getElem_toArray, List.getElem_cons_zero, List.getElem_cons_succ, List.setIfInBounds_toArray, List.set_cons_zero, List.set_cons_succ])
  go_simp
  (go_at_call 37; refine (implSame_any vc cap vo ao (sj a b c x y z l l2) l (max a x) (max b y) (max c z) a b c r HR _ HSL hm R4.out (RW.out.next hHeld.2.2.2)).mono ?_; rintro e w5 ⟨rfl, hb⟩)
  (try simp only [])
  refine hK.out _ _ ?_ (fun hHeld' => ?_)
  · (try dsimp only)
    exact ⟨c4_next hHeld.1 hb (Nat.lt_trans (by omega) hHeld.2.2.1), c4_next hHeld.2.1 hb hHeld.2.2.1, Nat.lt_of_lt_of_le hHeld.2.2.1 hb.size, bel_next hHeld.2.2.2 hb⟩
  clear hK K
  clear hHeld
  have hHeld := hHeld'
  clear hHeld'
  clear hb
  (try simp only [Act.put, List.getElem_toArray, List.getElem_cons_zero, List.getElem_cons_succ, List.setIfInBounds_toArray, List.set_cons_zero, List.set_cons_succ])
  refine wpAnyH_take (i := 5) (v := ?_) rfl (by kernel_rfl) (by kernel_rfl) (by kernel_rfl) (fun _ _ _ h => h) (Or.inl ⟨by rfl, ?_⟩) (by assumption) ?_
  rotate_left
  · intro w' hSw
    (try dsimp only at hSw)
    go_simp
    all_goals (try with_reducible rfl)
  (try simp only [Act.put, List.getElem_toArray, List.getElem_cons_zero, List.getElem_cons_succ, List.setIfInBounds_toArray, List.set_cons_zero, List.set_cons_succ])
  refine wpAnyH_take (i := 6) (v := ?_) rfl (by kernel_rfl) (by kernel_rfl) (by kernel_rfl) (fun _ _ _ h => h) (Or.inl ⟨by rfl, ?_⟩) (by assumption) ?_
  rotate_left
  · intro w' hSw
    (try dsimp only at hSw)
    go_simp
    all_goals (try with_reducible rfl)
  (try simp only [Act.put, List.getElem_toArray, List.getElem_cons_zero, List.getElem_cons_succ, List.setIfInBounds_toArray, List.set_cons_zero, List.set_cons_succ])
  refine wpAnyH_done (by kernel_rfl) ?_ _
  have HB5 : Hid (Below w.heap.size w w5) := hHeld.2.2.2
  clear hHeld ca0 ca1 ca2 ca3 cc0 cc1 cc2 cc3 R4 HR HSL
  go_wp2
  go_ret2
  exact ⟨rfl, HB5.out⟩
end Go.Proofs.YtcmniplbiliobaaDoor

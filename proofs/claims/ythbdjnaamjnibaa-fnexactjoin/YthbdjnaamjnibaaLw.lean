/- The law of Join. -/
import Derived.Test.YthbdjnaamjnibaaRows
import Derived.WalkKit
import Derived.WalkSpells
import Derived.WalkLawsBesides
import Derived.Deep.QuietTactic
import Derived.BigQuiet
import Derived.Deep.RegionHeld3
import Derived.Test.YthbdjnaamjnibaaJb
import Derived.Test.YthbdjnaamjnibaaMh
import Derived.Test.YthbdjnaamjnibaaSo
import Derived.LoopN
import Derived.Deep.Cut
namespace Go.Proofs.Ythbdjnaamjnibaa
open Go.RowKit
set_option linter.unusedSimpArgs false
set_option linter.unusedVariables false

theorem join_wrap {F : Nat} {args : Array Value} {w : World} {J : List Sib} {p q r code : Int} {e0 : TypeId} (h : Calls Try.prog F args w fun e w' => ∃ v, e = .returned (.tuple #[.agg #[v, .int .i64 p, .int .i64 q, .int .i64 r], .int .i64 code]) ∧ Gro w w' (.slice none 0 0) v ∧ w'.ownsRow 0 e0 4 v J.length (flat J)) :
    Calls Try.prog F args w fun e w' => ∃ ao' cap', e = .returned (.tuple #[.agg #[.slice ao' J.length cap', .int .i64 p, .int .i64 q, .int .i64 r], .int .i64 code]) ∧ Below w.heap.size w w' ∧ Hid (w'.ownsRow 0 e0 4 (.slice ao' J.length cap') J.length (flat J)) ∧ Hid (∀ k, Value.ownBlock (.slice ao' J.length cap') = some k → w.heap.size ≤ k ∧ k < w'.heap.size) := by
  refine h.mono ?_
  rintro e w' ⟨v, rfl, hg, ho⟩
  obtain ⟨ao', cap', rfl⟩ : ∃ ao' cap', v = .slice ao' J.length cap' := by
    rcases ho.2 with ⟨rfl, hn⟩ | ⟨g, cap', cur, rfl, _⟩
    · exact ⟨none, 0, by rw [hn]⟩
    · exact ⟨_, cap', rfl⟩
  refine ⟨ao', cap', rfl, hg.below (Nat.le_refl _) (fun k hk => absurd hk Gro.none_ne), ho, fun k hk => ⟨?_, (ho.lt k hk).2⟩⟩
  rcases hg.fresh k hk with h' | h'
  · exact absurd h' Gro.none_ne
  · exact h'
theorem row_mark {W W' : World} {ao : Option Addr} {l : List Sib} {r : Option Nat} (h : Hid (SibRow W ao l)) (hg : W.grownBy W' r) (hne : ∀ q, ao = some q → r ≠ some q.block) : Hid (SibRow W' ao l) := by
  rcases h.out with h | ⟨b, off, rfl, h2⟩
  · exact .inl h
  · exact .inr ⟨b, off, rfl, fun i hi => ⟨hg.cell (h2 i hi).1 (fun e => hne _ rfl e.symm), hg.cell (h2 i hi).2.1 (fun e => hne _ rfl e.symm), hg.cell (h2 i hi).2.2.1 (fun e => hne _ rfl e.symm), hg.cell (h2 i hi).2.2.2 (fun e => hne _ rfl e.symm)⟩⟩
theorem own_mrow {W : World} {e : TypeId} {ao : Option Addr} {cap : Nat} {J : List Sib} (h : Hid (W.ownsRow 0 e 4 (.slice ao J.length cap) J.length (flat J))) : Hid (MRow W ao J.length) := by
  rcases h.out.2 with ⟨h', hn⟩ | ⟨g, cap', cur, h', _⟩
  · exact .inl hn
  · cases h'
    refine .inr ⟨g, rfl, (h.out.lt g rfl).2, fun j hj => ?_⟩
    rw [h.out.cellAt j hj]
    refine ⟨?_, h.out.frozenAt j⟩
    have : j < (flat J).length := by rw [flat_length]; exact hj
    simp [this]
theorem own_srow {W : World} {e : TypeId} {ao : Option Addr} {cap : Nat} {J : List Sib} (h : Hid (W.ownsRow 0 e 4 (.slice ao J.length cap) J.length (flat J))) : SibRow W ao J := by
  obtain ⟨o, c, e', hr, _⟩ := owned_row h.out
  cases e'
  exact hr
theorem there_new {W : World} {t : TypeId} : There (W.alloc (.cells #[.slice none 0 0, .int .i64 0, .int .i64 0, .int .i64 0] t)) W.heap.size 4 := fun j hj => by
  have hj' : j = 0 ∨ j = 1 ∨ j = 2 ∨ j = 3 := by omega
  rcases hj' with rfl | rfl | rfl | rfl <;> exact ⟨by go_simp, by go_simp⟩
theorem set4_cells {W : World} {g : Nat} {v : Value} {p q r : Int} (h : There W g 4) : Cells4 ((((W.setCell ⟨g, 0, none⟩ v).setCell ⟨g, 1, none⟩ (.int .i64 p)).setCell ⟨g, 2, none⟩ (.int .i64 q)).setCell ⟨g, 3, none⟩ (.int .i64 r)) g v p q r := by
  obtain ⟨v0, y0⟩ := Option.isSome_iff_exists.1 (h 0 (by omega)).1
  obtain ⟨v1, y1⟩ := Option.isSome_iff_exists.1 (h 1 (by omega)).1
  obtain ⟨v2, y2⟩ := Option.isSome_iff_exists.1 (h 2 (by omega)).1
  obtain ⟨v3, y3⟩ := Option.isSome_iff_exists.1 (h 3 (by omega)).1
  exact ⟨cell_oth (cell_oth (cell_oth (cell_same y0) (by omega)) (by omega)) (by omega), cell_oth (cell_oth (cell_same (cell_oth y1 (by omega))) (by omega)) (by omega), cell_oth (cell_same (cell_oth (cell_oth y2 (by omega)) (by omega))) (by omega), cell_same (cell_oth (cell_oth (cell_oth y3 (by omega)) (by omega)) (by omega))⟩
theorem below_set4 {w W : World} {g : Nat} {v0 v1 v2 v3 : Value} (h : Below w.heap.size w W) (hg : w.heap.size ≤ g) : Below w.heap.size w ((((W.setCell ⟨g, 0, none⟩ v0).setCell ⟨g, 1, none⟩ v1).setCell ⟨g, 2, none⟩ v2).setCell ⟨g, 3, none⟩ v3) :=
  (((h.setCell (by simpa using hg) _).setCell (by simpa using hg) _).setCell (by simpa using hg) _).setCell (by simpa using hg) _
theorem own_set4 {W : World} {e : TypeId} {g n : Nat} {v v0 v1 v2 v3 : Value} {xs : List Value} (h : W.ownsRow 0 e 4 v n xs) (hne : v.ownBlock ≠ some g) : ((((W.setCell ⟨g, 0, none⟩ v0).setCell ⟨g, 1, none⟩ v1).setCell ⟨g, 2, none⟩ v2).setCell ⟨g, 3, none⟩ v3).ownsRow 0 e 4 v n xs :=
  ownsRow_setCell_other (ownsRow_setCell_other (ownsRow_setCell_other (ownsRow_setCell_other h hne _) hne _) hne _) hne _

theorem belW_next {w W W' : World} (h : Below w.heap.size w W) (hb : Below W.heap.size W W') : Below w.heap.size w W' := h.trans (hb.mono h.size)
theorem cells_set4 {W : World} {g g' : Nat} {v v0 v1 v2 v3 : Value} {a b c : Int} (h : Cells4 W g v a b c) (hne : g ≠ g') : Cells4 ((((W.setCell ⟨g', 0, none⟩ v0).setCell ⟨g', 1, none⟩ v1).setCell ⟨g', 2, none⟩ v2).setCell ⟨g', 3, none⟩ v3) g v a b c :=
  ⟨cell_set (cell_set (cell_set (cell_set h.1 hne) hne) hne) hne, cell_set (cell_set (cell_set (cell_set h.2.1 hne) hne) hne) hne, cell_set (cell_set (cell_set (cell_set h.2.2.1 hne) hne) hne) hne, cell_set (cell_set (cell_set (cell_set h.2.2.2 hne) hne) hne) hne⟩
set_option maxRecDepth 100000 in
set_option maxHeartbeats 16000000 in
theorem law_join_small (cap cp : Nat) (ao bo : Option Addr) (l l2 : List Sib) (a b c x y z : Int) (w : World) (hl : l.length + l2.length ≤ 1048576) (hr0 : SibRow w ao l) (hs0 : SibRow w bo l2) :
    Calls Try.prog 3 #[.agg #[.slice ao l.length cap, .int .i64 a, .int .i64 b, .int .i64 c], .agg #[.slice bo l2.length cp, .int .i64 x, .int .i64 y, .int .i64 z]] w fun e w' => e = .returned (.bool true) ∧ Below w.heap.size w w' := by
  obtain ⟨k0, hO⟩ := bool_of (OkP l a b c)
  obtain ⟨k1, hP⟩ := bool_of (OkP l2 x y z)
  obtain ⟨J, p, q, r, code, hJ, hJ100⟩ := jr_of k0 k1 l l2 a b c x y z
  have hJl : (J.length : Int) ≤ 1048576 := by omega
  have RA0 : Hid (SibRow w ao l) := hr0
  have RB0 : Hid (SibRow w bo l2) := hs0
  have hngk : ¬ 1 + 4 * (l.length : Int) + 4 * (l2.length : Int) < 0 := by omega
  have hngm : ¬ 1 + 4 * (J.length : Int) < 0 := by omega
  have hif : (if (l.length : Int) ≤ 1048576 then 1048576 - (l.length : Int) else -1) = 1048576 - (l.length : Int) := if_pos (by omega)
  have hng : ¬ 1048576 - (l.length : Int) < 0 := by omega
  have hif2 : (if (l2.length : Int) ≤ 1048576 - (l.length : Int) then 1048576 - (l.length : Int) - (l2.length : Int) else -1) = 1048576 - (l.length : Int) - (l2.length : Int) := if_pos (by omega)
  have hng2 : ¬ 1048576 - (l.length : Int) - (l2.length : Int) < 0 := by omega
  have HB : Hid (Below w.heap.size w w) := Below.refl _ _
  have RA : Hid (SibRow w ao l) := hr0
  have RB : Hid (SibRow w bo l2) := hs0
  have hm : (l.length : Int) ≤ 1048576 := by omega
  have hm2 : (l2.length : Int) ≤ 1048576 := by omega
  clear hr0 hs0
  go_enter Try.func3, Try.ntmps3
  go_wp2_with fail
  refine (szObj_any cap ao l a b c 1048576 _ (by omega) (by omega) (by omega)).mono ?_
  rintro e w1 ⟨rfl, hb⟩
  have BA := c4_next (c4_next box_new (bel_alloc _ _) lt_new) hb (lt_next lt_new (bel_alloc _ _))
  have LA := lt_next (lt_next lt_new (bel_alloc _ _)) hb
  have BB := c4_next box_new hb lt_new
  have LB := lt_next lt_new hb
  replace RA := row_next (row_next (row_next RA (bel_alloc _ _)) (bel_alloc _ _)) hb
  replace RB := row_next (row_next (row_next RB (bel_alloc _ _)) (bel_alloc _ _)) hb
  replace HB := bel_next (bel_next (bel_next HB (bel_alloc _ _)) (bel_alloc _ _)) hb
  simp only [World.size_alloc] at BB LB
  clear hb
  rw [hif]
  obtain ⟨bA0, bA1, bA2, bA3⟩ := BA.out
  obtain ⟨bB0, bB1, bB2, bB3⟩ := BB.out
  go_wp2_with fail
  clear bA0 bA1 bA2 bA3
  clear bB0 bB1 bB2 bB3
  refine (szObj_any cp bo l2 x y z _ _ (by omega) (by omega) (by omega)).mono ?_
  rintro e w2 ⟨rfl, hb⟩
  replace BA := c4_next BA hb LA
  replace BB := c4_next BB hb LB
  replace LA := lt_next LA hb
  replace LB := lt_next LB hb
  replace RA := row_next RA hb
  replace RB := row_next RB hb
  replace HB := bel_next HB hb
  clear hb
  rw [hif2]
  go_upto_region 8 with fail
  go_cut [6, 7] from 17 (fun s6 s7 wc => ∃ (gb : Nat) (vo : Option Addr) (vc : Nat), s6 = .pointer (some ⟨gb, 0, none⟩) ∧ s7 = .int .i64 code ∧ Cells4 wc gb (.slice vo J.length vc) p q r ∧ gb < wc.heap.size ∧ w2.heap.size ≤ gb ∧ wc.ownsRow 0 53 4 (.slice vo J.length vc) J.length (flat J) ∧ Below w2.heap.size w2 wc)
  case first =>
    refine wp_region_held_drew (S := (fun w' => (w'.cell? ⟨w.heap.size, 0, none⟩ = some (Value.slice ao l.length cap) ∧ w'.cell? ⟨w.heap.size, 1, none⟩ = some (.int .i64 a) ∧ w'.cell? ⟨w.heap.size, 2, none⟩ = some (.int .i64 b) ∧ w'.cell? ⟨w.heap.size, 3, none⟩ = some (.int .i64 c)) ∧ (w'.cell? ⟨w.heap.size + 1, 0, none⟩ = some (Value.slice bo l2.length cp) ∧ w'.cell? ⟨w.heap.size + 1, 1, none⟩ = some (.int .i64 x) ∧ w'.cell? ⟨w.heap.size + 1, 2, none⟩ = some (.int .i64 y) ∧ w'.cell? ⟨w.heap.size + 1, 3, none⟩ = some (.int .i64 z)) ∧ (w.heap.size < w'.heap.size) ∧ (w.heap.size + 1 < w'.heap.size) ∧ SibRow w' (ao) l ∧ SibRow w' (bo) l2 ∧ Below w2.heap.size w2 w' ∧ Below w.heap.size w w')) (by kernel_rfl) ?_ (fun hHeld => ?_)
    · (try dsimp only)
      exact ⟨BA.out, BB.out, LA.out, LB.out, RA.out, RB.out, bel_drew _, (bel_next HB (bel_drew _)).out⟩
    refine wpAnyH_take (i := 0) (v := ?_) rfl (by kernel_rfl) (by kernel_rfl) (by kernel_rfl) (fun _ _ _ h => h) (Or.inl ⟨by rfl, ?_⟩) (by assumption) ?_
    rotate_left
    · intro w' hSw
      (try dsimp only at hSw)
      go_simp
      all_goals (try with_reducible rfl)
    (try simp only [Act.put, List.getElem_toArray, List.getElem_cons_zero, List.getElem_cons_succ, List.setIfInBounds_toArray, List.set_cons_zero, List.set_cons_succ])
    refine wpAnyH_take (i := 2) (v := ?_) rfl (by kernel_rfl) (by kernel_rfl) (by kernel_rfl) (fun _ _ _ h => h) (Or.inl ⟨by rfl, ?_⟩) (by assumption) ?_
    rotate_left
    · intro w' hSw
      (try dsimp only at hSw)
      go_simp
      all_goals (try with_reducible rfl)
    (try simp only [Act.put, List.getElem_toArray, List.getElem_cons_zero, List.getElem_cons_succ, List.setIfInBounds_toArray, List.set_cons_zero, List.set_cons_succ])
    refine wpAnyH_ready (rs := [1, 8]) (by kernel_rfl) (by simp) ?_
    refine AllReadyH.cons rfl (fun K hK => ?_) (AllReadyH.cons rfl (fun K hK => ?_) AllReadyH.nil)
    · (try simp only [Act.put, List.getElem_toArray, List.getElem_cons_zero, List.getElem_cons_succ, List.setIfInBounds_toArray, List.set_cons_zero, List.set_cons_succ])
      go_simp
      go_at_call 8
      refine (toObj_any cap ao l a b c _ hm hHeld.2.2.2.2.1).mono ?_
      rintro e wa1 ⟨g1, rfl, hb, hg, hG, hT, hS⟩
      have R1 := row_of_at hS
      refine hK.out _ _ ?_ (fun hHeld' => ?_)
      · (try dsimp only)
        exact ⟨c4_next hHeld.1 hb hHeld.2.2.1, c4_next hHeld.2.1 hb hHeld.2.2.2.1, lt_next hHeld.2.2.1 hb, lt_next hHeld.2.2.2.1 hb, row_next hHeld.2.2.2.2.1 hb, row_next hHeld.2.2.2.2.2.1 hb, belW_next hHeld.2.2.2.2.2.2.1 hb, bel_next hHeld.2.2.2.2.2.2.2 hb⟩
      clear hK K
      clear hHeld
      have hHeld := hHeld'
      clear hHeld'
      have HSZ : Hid (w2.heap.size ≤ wa1.heap.size) := hHeld.2.2.2.2.2.2.1.size
      clear hb
      (try simp only [Act.put, List.getElem_toArray, List.getElem_cons_zero, List.getElem_cons_succ, List.setIfInBounds_toArray, List.set_cons_zero, List.set_cons_succ])
      refine wpAnyH_ready (rs := [3, 8]) (by kernel_rfl) (by simp) ?_
      refine AllReadyH.cons rfl (fun K hK => ?_) (AllReadyH.cons rfl (fun K hK => ?_) AllReadyH.nil)
      · (try simp only [Act.put, List.getElem_toArray, List.getElem_cons_zero, List.getElem_cons_succ, List.setIfInBounds_toArray, List.set_cons_zero, List.set_cons_succ])
        go_simp
        go_at_call 8
        refine (toObj_any cp bo l2 x y z _ hm2 hHeld.2.2.2.2.2.1).mono ?_
        rintro e wa2 ⟨g2, rfl, hb, hg, hG, hT, hS⟩
        have R2 := row_of_at hS
        replace R1 := row_next R1 hb
        refine hK.out _ _ ?_ (fun hHeld' => ?_)
        · (try dsimp only)
          exact ⟨c4_next hHeld.1 hb hHeld.2.2.1, c4_next hHeld.2.1 hb hHeld.2.2.2.1, lt_next hHeld.2.2.1 hb, lt_next hHeld.2.2.2.1 hb, row_next hHeld.2.2.2.2.1 hb, row_next hHeld.2.2.2.2.2.1 hb, belW_next hHeld.2.2.2.2.2.2.1 hb, bel_next hHeld.2.2.2.2.2.2.2 hb⟩
        clear hK K
        clear hHeld
        have hHeld := hHeld'
        clear hHeld'
        have HSZ : Hid (w2.heap.size ≤ wa2.heap.size) := hHeld.2.2.2.2.2.2.1.size
        clear hb
        (try simp only [Act.put, List.getElem_toArray, List.getElem_cons_zero, List.getElem_cons_succ, List.setIfInBounds_toArray, List.set_cons_zero, List.set_cons_succ])
        refine wpAnyH_ready (rs := [4, 8]) (by kernel_rfl) (by simp) ?_
        refine AllReadyH.cons rfl (fun K hK => ?_) (AllReadyH.cons rfl (fun K hK => ?_) AllReadyH.nil)
        · (try simp only [Act.put, List.getElem_toArray, List.getElem_cons_zero, List.getElem_cons_succ, List.setIfInBounds_toArray, List.set_cons_zero, List.set_cons_succ])
          go_simp
          go_at_call 7
          refine (join_wrap (specJoin_any l.length l2.length _ _ l l2 a b c x y z k0 k1 hO hP J p q r code hJ _ hm hm2 (Nat.le_refl _) R1.out R2.out)).mono ?_
          rintro e wa3 ⟨vo, vc, rfl, hb, OV, FV⟩
          refine hK.out _ _ ?_ (fun hHeld' => ?_)
          · (try dsimp only)
            exact ⟨c4_next hHeld.1 hb hHeld.2.2.1, c4_next hHeld.2.1 hb hHeld.2.2.2.1, lt_next hHeld.2.2.1 hb, lt_next hHeld.2.2.2.1 hb, row_next hHeld.2.2.2.2.1 hb, row_next hHeld.2.2.2.2.2.1 hb, belW_next hHeld.2.2.2.2.2.2.1 hb, bel_next hHeld.2.2.2.2.2.2.2 hb⟩
          clear hK K
          clear hHeld
          have hHeld := hHeld'
          clear hHeld'
          have HSZ : Hid (w2.heap.size ≤ wa3.heap.size) := hHeld.2.2.2.2.2.2.1.size
          clear hb
          (try simp only [Act.put, List.getElem_toArray, List.getElem_cons_zero, List.getElem_cons_succ, List.setIfInBounds_toArray, List.set_cons_zero, List.set_cons_succ])
          refine wpAnyH_take (i := 5) (v := ?_) rfl (by kernel_rfl) (by kernel_rfl) (by kernel_rfl) (fun _ _ _ h => h) (Or.inl ⟨by rfl, ?_⟩) (by assumption) ?_
          rotate_left
          · intro w' hSw
            (try dsimp only at hSw)
            go_simp
            all_goals (try with_reducible rfl)
          (try simp only [Act.put, List.getElem_toArray, List.getElem_cons_zero, List.getElem_cons_succ, List.setIfInBounds_toArray, List.set_cons_zero, List.set_cons_succ])
          refine wpAnyH_take (i := 6) (v := ?_) rfl (by kernel_rfl) (by kernel_rfl) (by kernel_rfl) (fun _ _ _ h => h) (Or.inl ⟨by rfl, ?_⟩) (by assumption) ?_
          rotate_left
          · intro w' hSw
            (try dsimp only at hSw)
            go_simp
            all_goals (try with_reducible rfl)
          (try simp only [Act.put, List.getElem_toArray, List.getElem_cons_zero, List.getElem_cons_succ, List.setIfInBounds_toArray, List.set_cons_zero, List.set_cons_succ])
          refine wpAnyH_take (i := 7) (v := ?_) rfl (by kernel_rfl) (by kernel_rfl) (by kernel_rfl) (fun _ _ _ h => h) (Or.inl ⟨by rfl, ?_⟩) (by assumption) ?_
          rotate_left
          · intro w' hSw
            (try dsimp only at hSw)
            go_simp
            all_goals (try with_reducible rfl)
          (try simp only [Act.put, List.getElem_toArray, List.getElem_cons_zero, List.getElem_cons_succ, List.setIfInBounds_toArray, List.set_cons_zero, List.set_cons_succ])
          refine wpAnyH_ready (rs := [8]) (by kernel_rfl) (by simp) ?_
          refine AllReadyH.cons rfl (fun K hK => ?_) AllReadyH.nil
          (try simp only [Act.put, List.getElem_toArray, List.getElem_cons_zero, List.getElem_cons_succ, List.setIfInBounds_toArray, List.set_cons_zero, List.set_cons_succ])
          go_simp
          (try simp only [])
          have hb := bel_alloc (wa3) (.cells #[.slice none 0 0, .int .i64 0, .int .i64 0, .int .i64 0] 30)
          replace OV := own_hnext OV hb
          refine hK.out _ _ ?_ (fun hHeld' => ?_)
          · (try dsimp only)
            exact ⟨c4_next hHeld.1 hb hHeld.2.2.1, c4_next hHeld.2.1 hb hHeld.2.2.2.1, lt_next hHeld.2.2.1 hb, lt_next hHeld.2.2.2.1 hb, row_next hHeld.2.2.2.2.1 hb, row_next hHeld.2.2.2.2.2.1 hb, belW_next hHeld.2.2.2.2.2.2.1 hb, bel_next hHeld.2.2.2.2.2.2.2 hb⟩
          clear hK K
          clear hHeld
          have hHeld := hHeld'
          clear hHeld'
          have TH : Hid (There (wa3.alloc (.cells #[.slice none 0 0, .int .i64 0, .int .i64 0, .int .i64 0] 30)) (wa3.heap.size) 4) := there_new
          have LG : Hid (wa3.heap.size < (wa3.alloc (.cells #[.slice none 0 0, .int .i64 0, .int .i64 0, .int .i64 0] 30)).heap.size) := lt_new (W := wa3)
          have NV : Hid ((Value.slice vo J.length vc).ownBlock ≠ some (wa3.heap.size)) := fun e => Nat.lt_irrefl _ (FV.out _ e).2
          have GE : Hid (w2.heap.size ≤ wa3.heap.size) := (show w2.heap.size ≤ wa3.heap.size from by first | exact Nat.le_refl _ | exact HSZ.out)
          clear hb
          generalize wa3.alloc (.cells #[.slice none 0 0, .int .i64 0, .int .i64 0, .int .i64 0] 30) = WA at *
          generalize wa3.heap.size = gz at *
          (try simp only [Act.put, List.getElem_toArray, List.getElem_cons_zero, List.getElem_cons_succ, List.setIfInBounds_toArray, List.set_cons_zero, List.set_cons_succ])
          obtain ⟨t0, T0⟩ := Option.isSome_iff_exists.1 (TH.out 0 (by omega)).1
          have Z0 := (TH.out 0 (by omega)).2
          obtain ⟨t1, T1⟩ := Option.isSome_iff_exists.1 (TH.out 1 (by omega)).1
          have Z1 := (TH.out 1 (by omega)).2
          obtain ⟨t2, T2⟩ := Option.isSome_iff_exists.1 (TH.out 2 (by omega)).1
          have Z2 := (TH.out 2 (by omega)).2
          obtain ⟨t3, T3⟩ := Option.isSome_iff_exists.1 (TH.out 3 (by omega)).1
          have Z3 := (TH.out 3 (by omega)).2
          refine wpAnyH_ready (rs := [9]) (by kernel_rfl) (by simp) ?_
          refine AllReadyH.cons rfl (fun K hK => ?_) AllReadyH.nil
          (try simp only [Act.put, List.getElem_toArray, List.getElem_cons_zero, List.getElem_cons_succ, List.setIfInBounds_toArray, List.set_cons_zero, List.set_cons_succ])
          go_simp
          (try simp only [])
          have GZ := GE.out
          have HW := hHeld.2.2.2.2.2.2.1
          refine hK.out _ _ ?_ (fun hHeld' => ?_)
          · (try dsimp only)
            exact ⟨cells_set4 hHeld.1 (by have := LA.out; omega), cells_set4 hHeld.2.1 (by have := LB.out; omega), (by simpa [World.setCell] using hHeld.2.2.1), (by simpa [World.setCell] using hHeld.2.2.2.1), (row_at RA (below_set4 HW GZ)), (row_at RB (below_set4 HW GZ)), below_set4 HW GZ, below_set4 hHeld.2.2.2.2.2.2.2 (Nat.le_trans HB.out.size GZ)⟩
          clear hK K hHeld
          have hHeld := hHeld'
          clear hHeld'
          (try simp only [Act.put, List.getElem_toArray, List.getElem_cons_zero, List.getElem_cons_succ, List.setIfInBounds_toArray, List.set_cons_zero, List.set_cons_succ])
          refine wpAnyH_take (i := 10) (v := ?_) rfl (by kernel_rfl) (by kernel_rfl) (by kernel_rfl) (fun _ _ _ h => h) (Or.inl ⟨by rfl, ?_⟩) (by assumption) ?_
          rotate_left
          · intro w' hSw
            (try dsimp only at hSw)
            go_simp
            all_goals (try with_reducible rfl)
          (try simp only [Act.put, List.getElem_toArray, List.getElem_cons_zero, List.getElem_cons_succ, List.setIfInBounds_toArray, List.set_cons_zero, List.set_cons_succ])
          refine wpAnyH_done (by kernel_rfl) ?_ _
          have CC := set4_cells (v := .slice vo J.length vc) (p := p) (q := q) (r := r) TH.out
          have C9 : Hid _ := CC
          have O9 : Hid _ := own_set4 (v0 := .slice vo J.length vc) (v1 := .int .i64 p) (v2 := .int .i64 q) (v3 := .int .i64 r) OV.out NV.out
          have B9 : Hid _ := below_set4 (v0 := .slice vo J.length vc) (v1 := .int .i64 p) (v2 := .int .i64 q) (v3 := .int .i64 r) HW GZ
          clear CC T0 T1 T2 T3 Z0 Z1 Z2 Z3 hHeld
          go_wp2
          go_meet
          case rel => exact ⟨gz, vo, vc, rfl, rfl, C9.out, by simpa [World.setCell] using LG.out, GZ, O9.out, B9.out⟩
        · (try simp only [Act.put, List.getElem_toArray, List.getElem_cons_zero, List.getElem_cons_succ, List.setIfInBounds_toArray, List.set_cons_zero, List.set_cons_succ])
          go_simp
          (try simp only [])
          have hb := bel_alloc (wa2) (.cells #[.slice none 0 0, .int .i64 0, .int .i64 0, .int .i64 0] 30)
          replace R1 := row_next R1 hb
          replace R2 := row_next R2 hb
          refine hK.out _ _ ?_ (fun hHeld' => ?_)
          · (try dsimp only)
            exact ⟨c4_next hHeld.1 hb hHeld.2.2.1, c4_next hHeld.2.1 hb hHeld.2.2.2.1, lt_next hHeld.2.2.1 hb, lt_next hHeld.2.2.2.1 hb, row_next hHeld.2.2.2.2.1 hb, row_next hHeld.2.2.2.2.2.1 hb, belW_next hHeld.2.2.2.2.2.2.1 hb, bel_next hHeld.2.2.2.2.2.2.2 hb⟩
          clear hK K
          clear hHeld
          have hHeld := hHeld'
          clear hHeld'
          have TH : Hid (There (wa2.alloc (.cells #[.slice none 0 0, .int .i64 0, .int .i64 0, .int .i64 0] 30)) (wa2.heap.size) 4) := there_new
          have LG : Hid (wa2.heap.size < (wa2.alloc (.cells #[.slice none 0 0, .int .i64 0, .int .i64 0, .int .i64 0] 30)).heap.size) := lt_new (W := wa2)
          have GE : Hid (w2.heap.size ≤ wa2.heap.size) := (show w2.heap.size ≤ wa2.heap.size from by first | exact Nat.le_refl _ | exact HSZ.out)
          clear hb
          generalize wa2.alloc (.cells #[.slice none 0 0, .int .i64 0, .int .i64 0, .int .i64 0] 30) = WA at *
          generalize wa2.heap.size = gz at *
          (try simp only [Act.put, List.getElem_toArray, List.getElem_cons_zero, List.getElem_cons_succ, List.setIfInBounds_toArray, List.set_cons_zero, List.set_cons_succ])
          refine wpAnyH_ready (rs := [4]) (by kernel_rfl) (by simp) ?_
          refine AllReadyH.cons rfl (fun K hK => ?_) AllReadyH.nil
          (try simp only [Act.put, List.getElem_toArray, List.getElem_cons_zero, List.getElem_cons_succ, List.setIfInBounds_toArray, List.set_cons_zero, List.set_cons_succ])
          go_simp
          go_at_call 7
          refine (join_wrap (specJoin_any l.length l2.length _ _ l l2 a b c x y z k0 k1 hO hP J p q r code hJ _ hm hm2 (Nat.le_refl _) R1.out R2.out)).mono ?_
          rintro e wa3 ⟨vo, vc, rfl, hb, OV, FV⟩
          have NV : Hid ((Value.slice vo J.length vc).ownBlock ≠ some gz) := fun e => by
            have h1 := (FV.out _ e).1
            have h2 := LG.out
            omega
          replace TH := th_next TH hb LG
          replace LG := lt_next LG hb
          refine hK.out _ _ ?_ (fun hHeld' => ?_)
          · (try dsimp only)
            exact ⟨c4_next hHeld.1 hb hHeld.2.2.1, c4_next hHeld.2.1 hb hHeld.2.2.2.1, lt_next hHeld.2.2.1 hb, lt_next hHeld.2.2.2.1 hb, row_next hHeld.2.2.2.2.1 hb, row_next hHeld.2.2.2.2.2.1 hb, belW_next hHeld.2.2.2.2.2.2.1 hb, bel_next hHeld.2.2.2.2.2.2.2 hb⟩
          clear hK K
          clear hHeld
          have hHeld := hHeld'
          clear hHeld'
          have HSZ : Hid (w2.heap.size ≤ wa3.heap.size) := hHeld.2.2.2.2.2.2.1.size
          clear hb
          (try simp only [Act.put, List.getElem_toArray, List.getElem_cons_zero, List.getElem_cons_succ, List.setIfInBounds_toArray, List.set_cons_zero, List.set_cons_succ])
          refine wpAnyH_take (i := 5) (v := ?_) rfl (by kernel_rfl) (by kernel_rfl) (by kernel_rfl) (fun _ _ _ h => h) (Or.inl ⟨by rfl, ?_⟩) (by assumption) ?_
          rotate_left
          · intro w' hSw
            (try dsimp only at hSw)
            go_simp
            all_goals (try with_reducible rfl)
          (try simp only [Act.put, List.getElem_toArray, List.getElem_cons_zero, List.getElem_cons_succ, List.setIfInBounds_toArray, List.set_cons_zero, List.set_cons_succ])
          refine wpAnyH_take (i := 6) (v := ?_) rfl (by kernel_rfl) (by kernel_rfl) (by kernel_rfl) (fun _ _ _ h => h) (Or.inl ⟨by rfl, ?_⟩) (by assumption) ?_
          rotate_left
          · intro w' hSw
            (try dsimp only at hSw)
            go_simp
            all_goals (try with_reducible rfl)
          (try simp only [Act.put, List.getElem_toArray, List.getElem_cons_zero, List.getElem_cons_succ, List.setIfInBounds_toArray, List.set_cons_zero, List.set_cons_succ])
          refine wpAnyH_take (i := 7) (v := ?_) rfl (by kernel_rfl) (by kernel_rfl) (by kernel_rfl) (fun _ _ _ h => h) (Or.inl ⟨by rfl, ?_⟩) (by assumption) ?_
          rotate_left
          · intro w' hSw
            (try dsimp only at hSw)
            go_simp
            all_goals (try with_reducible rfl)
          (try simp only [Act.put, List.getElem_toArray, List.getElem_cons_zero, List.getElem_cons_succ, List.setIfInBounds_toArray, List.set_cons_zero, List.set_cons_succ])
          obtain ⟨t0, T0⟩ := Option.isSome_iff_exists.1 (TH.out 0 (by omega)).1
          have Z0 := (TH.out 0 (by omega)).2
          obtain ⟨t1, T1⟩ := Option.isSome_iff_exists.1 (TH.out 1 (by omega)).1
          have Z1 := (TH.out 1 (by omega)).2
          obtain ⟨t2, T2⟩ := Option.isSome_iff_exists.1 (TH.out 2 (by omega)).1
          have Z2 := (TH.out 2 (by omega)).2
          obtain ⟨t3, T3⟩ := Option.isSome_iff_exists.1 (TH.out 3 (by omega)).1
          have Z3 := (TH.out 3 (by omega)).2
          refine wpAnyH_ready (rs := [9]) (by kernel_rfl) (by simp) ?_
          refine AllReadyH.cons rfl (fun K hK => ?_) AllReadyH.nil
          (try simp only [Act.put, List.getElem_toArray, List.getElem_cons_zero, List.getElem_cons_succ, List.setIfInBounds_toArray, List.set_cons_zero, List.set_cons_succ])
          go_simp
          (try simp only [])
          have GZ := GE.out
          have HW := hHeld.2.2.2.2.2.2.1
          refine hK.out _ _ ?_ (fun hHeld' => ?_)
          · (try dsimp only)
            exact ⟨cells_set4 hHeld.1 (by have := LA.out; omega), cells_set4 hHeld.2.1 (by have := LB.out; omega), (by simpa [World.setCell] using hHeld.2.2.1), (by simpa [World.setCell] using hHeld.2.2.2.1), (row_at RA (below_set4 HW GZ)), (row_at RB (below_set4 HW GZ)), below_set4 HW GZ, below_set4 hHeld.2.2.2.2.2.2.2 (Nat.le_trans HB.out.size GZ)⟩
          clear hK K hHeld
          have hHeld := hHeld'
          clear hHeld'
          (try simp only [Act.put, List.getElem_toArray, List.getElem_cons_zero, List.getElem_cons_succ, List.setIfInBounds_toArray, List.set_cons_zero, List.set_cons_succ])
          refine wpAnyH_take (i := 10) (v := ?_) rfl (by kernel_rfl) (by kernel_rfl) (by kernel_rfl) (fun _ _ _ h => h) (Or.inl ⟨by rfl, ?_⟩) (by assumption) ?_
          rotate_left
          · intro w' hSw
            (try dsimp only at hSw)
            go_simp
            all_goals (try with_reducible rfl)
          (try simp only [Act.put, List.getElem_toArray, List.getElem_cons_zero, List.getElem_cons_succ, List.setIfInBounds_toArray, List.set_cons_zero, List.set_cons_succ])
          refine wpAnyH_done (by kernel_rfl) ?_ _
          have CC := set4_cells (v := .slice vo J.length vc) (p := p) (q := q) (r := r) TH.out
          have C9 : Hid _ := CC
          have O9 : Hid _ := own_set4 (v0 := .slice vo J.length vc) (v1 := .int .i64 p) (v2 := .int .i64 q) (v3 := .int .i64 r) OV.out NV.out
          have B9 : Hid _ := below_set4 (v0 := .slice vo J.length vc) (v1 := .int .i64 p) (v2 := .int .i64 q) (v3 := .int .i64 r) HW GZ
          clear CC T0 T1 T2 T3 Z0 Z1 Z2 Z3 hHeld
          go_wp2
          go_meet
          case rel => exact ⟨gz, vo, vc, rfl, rfl, C9.out, by simpa [World.setCell] using LG.out, GZ, O9.out, B9.out⟩
      · (try simp only [Act.put, List.getElem_toArray, List.getElem_cons_zero, List.getElem_cons_succ, List.setIfInBounds_toArray, List.set_cons_zero, List.set_cons_succ])
        go_simp
        (try simp only [])
        have hb := bel_alloc (wa1) (.cells #[.slice none 0 0, .int .i64 0, .int .i64 0, .int .i64 0] 30)
        replace R1 := row_next R1 hb
        refine hK.out _ _ ?_ (fun hHeld' => ?_)
        · (try dsimp only)
          exact ⟨c4_next hHeld.1 hb hHeld.2.2.1, c4_next hHeld.2.1 hb hHeld.2.2.2.1, lt_next hHeld.2.2.1 hb, lt_next hHeld.2.2.2.1 hb, row_next hHeld.2.2.2.2.1 hb, row_next hHeld.2.2.2.2.2.1 hb, belW_next hHeld.2.2.2.2.2.2.1 hb, bel_next hHeld.2.2.2.2.2.2.2 hb⟩
        clear hK K
        clear hHeld
        have hHeld := hHeld'
        clear hHeld'
        have TH : Hid (There (wa1.alloc (.cells #[.slice none 0 0, .int .i64 0, .int .i64 0, .int .i64 0] 30)) (wa1.heap.size) 4) := there_new
        have LG : Hid (wa1.heap.size < (wa1.alloc (.cells #[.slice none 0 0, .int .i64 0, .int .i64 0, .int .i64 0] 30)).heap.size) := lt_new (W := wa1)
        have GE : Hid (w2.heap.size ≤ wa1.heap.size) := (show w2.heap.size ≤ wa1.heap.size from by first | exact Nat.le_refl _ | exact HSZ.out)
        clear hb
        generalize wa1.alloc (.cells #[.slice none 0 0, .int .i64 0, .int .i64 0, .int .i64 0] 30) = WA at *
        generalize wa1.heap.size = gz at *
        (try simp only [Act.put, List.getElem_toArray, List.getElem_cons_zero, List.getElem_cons_succ, List.setIfInBounds_toArray, List.set_cons_zero, List.set_cons_succ])
        refine wpAnyH_ready (rs := [3]) (by kernel_rfl) (by simp) ?_
        refine AllReadyH.cons rfl (fun K hK => ?_) AllReadyH.nil
        (try simp only [Act.put, List.getElem_toArray, List.getElem_cons_zero, List.getElem_cons_succ, List.setIfInBounds_toArray, List.set_cons_zero, List.set_cons_succ])
        go_simp
        go_at_call 8
        refine (toObj_any cp bo l2 x y z _ hm2 hHeld.2.2.2.2.2.1).mono ?_
        rintro e wa2 ⟨g2, rfl, hb, hg, hG, hT, hS⟩
        have R2 := row_of_at hS
        replace R1 := row_next R1 hb
        replace TH := th_next TH hb LG
        replace LG := lt_next LG hb
        refine hK.out _ _ ?_ (fun hHeld' => ?_)
        · (try dsimp only)
          exact ⟨c4_next hHeld.1 hb hHeld.2.2.1, c4_next hHeld.2.1 hb hHeld.2.2.2.1, lt_next hHeld.2.2.1 hb, lt_next hHeld.2.2.2.1 hb, row_next hHeld.2.2.2.2.1 hb, row_next hHeld.2.2.2.2.2.1 hb, belW_next hHeld.2.2.2.2.2.2.1 hb, bel_next hHeld.2.2.2.2.2.2.2 hb⟩
        clear hK K
        clear hHeld
        have hHeld := hHeld'
        clear hHeld'
        have HSZ : Hid (w2.heap.size ≤ wa2.heap.size) := hHeld.2.2.2.2.2.2.1.size
        clear hb
        (try simp only [Act.put, List.getElem_toArray, List.getElem_cons_zero, List.getElem_cons_succ, List.setIfInBounds_toArray, List.set_cons_zero, List.set_cons_succ])
        refine wpAnyH_ready (rs := [4]) (by kernel_rfl) (by simp) ?_
        refine AllReadyH.cons rfl (fun K hK => ?_) AllReadyH.nil
        (try simp only [Act.put, List.getElem_toArray, List.getElem_cons_zero, List.getElem_cons_succ, List.setIfInBounds_toArray, List.set_cons_zero, List.set_cons_succ])
        go_simp
        go_at_call 7
        refine (join_wrap (specJoin_any l.length l2.length _ _ l l2 a b c x y z k0 k1 hO hP J p q r code hJ _ hm hm2 (Nat.le_refl _) R1.out R2.out)).mono ?_
        rintro e wa3 ⟨vo, vc, rfl, hb, OV, FV⟩
        have NV : Hid ((Value.slice vo J.length vc).ownBlock ≠ some gz) := fun e => by
          have h1 := (FV.out _ e).1
          have h2 := LG.out
          omega
        replace TH := th_next TH hb LG
        replace LG := lt_next LG hb
        refine hK.out _ _ ?_ (fun hHeld' => ?_)
        · (try dsimp only)
          exact ⟨c4_next hHeld.1 hb hHeld.2.2.1, c4_next hHeld.2.1 hb hHeld.2.2.2.1, lt_next hHeld.2.2.1 hb, lt_next hHeld.2.2.2.1 hb, row_next hHeld.2.2.2.2.1 hb, row_next hHeld.2.2.2.2.2.1 hb, belW_next hHeld.2.2.2.2.2.2.1 hb, bel_next hHeld.2.2.2.2.2.2.2 hb⟩
        clear hK K
        clear hHeld
        have hHeld := hHeld'
        clear hHeld'
        have HSZ : Hid (w2.heap.size ≤ wa3.heap.size) := hHeld.2.2.2.2.2.2.1.size
        clear hb
        (try simp only [Act.put, List.getElem_toArray, List.getElem_cons_zero, List.getElem_cons_succ, List.setIfInBounds_toArray, List.set_cons_zero, List.set_cons_succ])
        refine wpAnyH_take (i := 5) (v := ?_) rfl (by kernel_rfl) (by kernel_rfl) (by kernel_rfl) (fun _ _ _ h => h) (Or.inl ⟨by rfl, ?_⟩) (by assumption) ?_
        rotate_left
        · intro w' hSw
          (try dsimp only at hSw)
          go_simp
          all_goals (try with_reducible rfl)
        (try simp only [Act.put, List.getElem_toArray, List.getElem_cons_zero, List.getElem_cons_succ, List.setIfInBounds_toArray, List.set_cons_zero, List.set_cons_succ])
        refine wpAnyH_take (i := 6) (v := ?_) rfl (by kernel_rfl) (by kernel_rfl) (by kernel_rfl) (fun _ _ _ h => h) (Or.inl ⟨by rfl, ?_⟩) (by assumption) ?_
        rotate_left
        · intro w' hSw
          (try dsimp only at hSw)
          go_simp
          all_goals (try with_reducible rfl)
        (try simp only [Act.put, List.getElem_toArray, List.getElem_cons_zero, List.getElem_cons_succ, List.setIfInBounds_toArray, List.set_cons_zero, List.set_cons_succ])
        refine wpAnyH_take (i := 7) (v := ?_) rfl (by kernel_rfl) (by kernel_rfl) (by kernel_rfl) (fun _ _ _ h => h) (Or.inl ⟨by rfl, ?_⟩) (by assumption) ?_
        rotate_left
        · intro w' hSw
          (try dsimp only at hSw)
          go_simp
          all_goals (try with_reducible rfl)
        (try simp only [Act.put, List.getElem_toArray, List.getElem_cons_zero, List.getElem_cons_succ, List.setIfInBounds_toArray, List.set_cons_zero, List.set_cons_succ])
        obtain ⟨t0, T0⟩ := Option.isSome_iff_exists.1 (TH.out 0 (by omega)).1
        have Z0 := (TH.out 0 (by omega)).2
        obtain ⟨t1, T1⟩ := Option.isSome_iff_exists.1 (TH.out 1 (by omega)).1
        have Z1 := (TH.out 1 (by omega)).2
        obtain ⟨t2, T2⟩ := Option.isSome_iff_exists.1 (TH.out 2 (by omega)).1
        have Z2 := (TH.out 2 (by omega)).2
        obtain ⟨t3, T3⟩ := Option.isSome_iff_exists.1 (TH.out 3 (by omega)).1
        have Z3 := (TH.out 3 (by omega)).2
        refine wpAnyH_ready (rs := [9]) (by kernel_rfl) (by simp) ?_
        refine AllReadyH.cons rfl (fun K hK => ?_) AllReadyH.nil
        (try simp only [Act.put, List.getElem_toArray, List.getElem_cons_zero, List.getElem_cons_succ, List.setIfInBounds_toArray, List.set_cons_zero, List.set_cons_succ])
        go_simp
        (try simp only [])
        have GZ := GE.out
        have HW := hHeld.2.2.2.2.2.2.1
        refine hK.out _ _ ?_ (fun hHeld' => ?_)
        · (try dsimp only)
          exact ⟨cells_set4 hHeld.1 (by have := LA.out; omega), cells_set4 hHeld.2.1 (by have := LB.out; omega), (by simpa [World.setCell] using hHeld.2.2.1), (by simpa [World.setCell] using hHeld.2.2.2.1), (row_at RA (below_set4 HW GZ)), (row_at RB (below_set4 HW GZ)), below_set4 HW GZ, below_set4 hHeld.2.2.2.2.2.2.2 (Nat.le_trans HB.out.size GZ)⟩
        clear hK K hHeld
        have hHeld := hHeld'
        clear hHeld'
        (try simp only [Act.put, List.getElem_toArray, List.getElem_cons_zero, List.getElem_cons_succ, List.setIfInBounds_toArray, List.set_cons_zero, List.set_cons_succ])
        refine wpAnyH_take (i := 10) (v := ?_) rfl (by kernel_rfl) (by kernel_rfl) (by kernel_rfl) (fun _ _ _ h => h) (Or.inl ⟨by rfl, ?_⟩) (by assumption) ?_
        rotate_left
        · intro w' hSw
          (try dsimp only at hSw)
          go_simp
          all_goals (try with_reducible rfl)
        (try simp only [Act.put, List.getElem_toArray, List.getElem_cons_zero, List.getElem_cons_succ, List.setIfInBounds_toArray, List.set_cons_zero, List.set_cons_succ])
        refine wpAnyH_done (by kernel_rfl) ?_ _
        have CC := set4_cells (v := .slice vo J.length vc) (p := p) (q := q) (r := r) TH.out
        have C9 : Hid _ := CC
        have O9 : Hid _ := own_set4 (v0 := .slice vo J.length vc) (v1 := .int .i64 p) (v2 := .int .i64 q) (v3 := .int .i64 r) OV.out NV.out
        have B9 : Hid _ := below_set4 (v0 := .slice vo J.length vc) (v1 := .int .i64 p) (v2 := .int .i64 q) (v3 := .int .i64 r) HW GZ
        clear CC T0 T1 T2 T3 Z0 Z1 Z2 Z3 hHeld
        go_wp2
        go_meet
        case rel => exact ⟨gz, vo, vc, rfl, rfl, C9.out, by simpa [World.setCell] using LG.out, GZ, O9.out, B9.out⟩
    · (try simp only [Act.put, List.getElem_toArray, List.getElem_cons_zero, List.getElem_cons_succ, List.setIfInBounds_toArray, List.set_cons_zero, List.set_cons_succ])
      go_simp
      (try simp only [])
      have hb := bel_alloc (w2.drew) (.cells #[.slice none 0 0, .int .i64 0, .int .i64 0, .int .i64 0] 30)
      refine hK.out _ _ ?_ (fun hHeld' => ?_)
      · (try dsimp only)
        exact ⟨c4_next hHeld.1 hb hHeld.2.2.1, c4_next hHeld.2.1 hb hHeld.2.2.2.1, lt_next hHeld.2.2.1 hb, lt_next hHeld.2.2.2.1 hb, row_next hHeld.2.2.2.2.1 hb, row_next hHeld.2.2.2.2.2.1 hb, belW_next hHeld.2.2.2.2.2.2.1 hb, bel_next hHeld.2.2.2.2.2.2.2 hb⟩
      clear hK K
      clear hHeld
      have hHeld := hHeld'
      clear hHeld'
      have TH : Hid (There ((w2.alloc (.cells #[.slice none 0 0, .int .i64 0, .int .i64 0, .int .i64 0] 30)).drew) (w2.heap.size) 4) := there_new
      have LG : Hid (w2.heap.size < ((w2.alloc (.cells #[.slice none 0 0, .int .i64 0, .int .i64 0, .int .i64 0] 30)).drew).heap.size) := lt_new (W := w2)
      have GE : Hid (w2.heap.size ≤ w2.heap.size) := (show w2.heap.size ≤ w2.heap.size from by first | exact Nat.le_refl _ | exact HSZ.out)
      clear hb
      generalize (w2.alloc (.cells #[.slice none 0 0, .int .i64 0, .int .i64 0, .int .i64 0] 30)).drew = WA at *
      (try simp only [Act.put, List.getElem_toArray, List.getElem_cons_zero, List.getElem_cons_succ, List.setIfInBounds_toArray, List.set_cons_zero, List.set_cons_succ])
      refine wpAnyH_ready (rs := [1]) (by kernel_rfl) (by simp) ?_
      refine AllReadyH.cons rfl (fun K hK => ?_) AllReadyH.nil
      (try simp only [Act.put, List.getElem_toArray, List.getElem_cons_zero, List.getElem_cons_succ, List.setIfInBounds_toArray, List.set_cons_zero, List.set_cons_succ])
      go_simp
      go_at_call 8
      refine (toObj_any cap ao l a b c _ hm hHeld.2.2.2.2.1).mono ?_
      rintro e wa1 ⟨g1, rfl, hb, hg, hG, hT, hS⟩
      have R1 := row_of_at hS
      replace TH := th_next TH hb LG
      replace LG := lt_next LG hb
      refine hK.out _ _ ?_ (fun hHeld' => ?_)
      · (try dsimp only)
        exact ⟨c4_next hHeld.1 hb hHeld.2.2.1, c4_next hHeld.2.1 hb hHeld.2.2.2.1, lt_next hHeld.2.2.1 hb, lt_next hHeld.2.2.2.1 hb, row_next hHeld.2.2.2.2.1 hb, row_next hHeld.2.2.2.2.2.1 hb, belW_next hHeld.2.2.2.2.2.2.1 hb, bel_next hHeld.2.2.2.2.2.2.2 hb⟩
      clear hK K
      clear hHeld
      have hHeld := hHeld'
      clear hHeld'
      have HSZ : Hid (w2.heap.size ≤ wa1.heap.size) := hHeld.2.2.2.2.2.2.1.size
      clear hb
      (try simp only [Act.put, List.getElem_toArray, List.getElem_cons_zero, List.getElem_cons_succ, List.setIfInBounds_toArray, List.set_cons_zero, List.set_cons_succ])
      refine wpAnyH_ready (rs := [3]) (by kernel_rfl) (by simp) ?_
      refine AllReadyH.cons rfl (fun K hK => ?_) AllReadyH.nil
      (try simp only [Act.put, List.getElem_toArray, List.getElem_cons_zero, List.getElem_cons_succ, List.setIfInBounds_toArray, List.set_cons_zero, List.set_cons_succ])
      go_simp
      go_at_call 8
      refine (toObj_any cp bo l2 x y z _ hm2 hHeld.2.2.2.2.2.1).mono ?_
      rintro e wa2 ⟨g2, rfl, hb, hg, hG, hT, hS⟩
      have R2 := row_of_at hS
      replace R1 := row_next R1 hb
      replace TH := th_next TH hb LG
      replace LG := lt_next LG hb
      refine hK.out _ _ ?_ (fun hHeld' => ?_)
      · (try dsimp only)
        exact ⟨c4_next hHeld.1 hb hHeld.2.2.1, c4_next hHeld.2.1 hb hHeld.2.2.2.1, lt_next hHeld.2.2.1 hb, lt_next hHeld.2.2.2.1 hb, row_next hHeld.2.2.2.2.1 hb, row_next hHeld.2.2.2.2.2.1 hb, belW_next hHeld.2.2.2.2.2.2.1 hb, bel_next hHeld.2.2.2.2.2.2.2 hb⟩
      clear hK K
      clear hHeld
      have hHeld := hHeld'
      clear hHeld'
      have HSZ : Hid (w2.heap.size ≤ wa2.heap.size) := hHeld.2.2.2.2.2.2.1.size
      clear hb
      (try simp only [Act.put, List.getElem_toArray, List.getElem_cons_zero, List.getElem_cons_succ, List.setIfInBounds_toArray, List.set_cons_zero, List.set_cons_succ])
      refine wpAnyH_ready (rs := [4]) (by kernel_rfl) (by simp) ?_
      refine AllReadyH.cons rfl (fun K hK => ?_) AllReadyH.nil
      (try simp only [Act.put, List.getElem_toArray, List.getElem_cons_zero, List.getElem_cons_succ, List.setIfInBounds_toArray, List.set_cons_zero, List.set_cons_succ])
      go_simp
      go_at_call 7
      refine (join_wrap (specJoin_any l.length l2.length _ _ l l2 a b c x y z k0 k1 hO hP J p q r code hJ _ hm hm2 (Nat.le_refl _) R1.out R2.out)).mono ?_
      rintro e wa3 ⟨vo, vc, rfl, hb, OV, FV⟩
      have NV : Hid ((Value.slice vo J.length vc).ownBlock ≠ some w2.heap.size) := fun e => by
        have h1 := (FV.out _ e).1
        have h2 := LG.out
        omega
      replace TH := th_next TH hb LG
      replace LG := lt_next LG hb
      refine hK.out _ _ ?_ (fun hHeld' => ?_)
      · (try dsimp only)
        exact ⟨c4_next hHeld.1 hb hHeld.2.2.1, c4_next hHeld.2.1 hb hHeld.2.2.2.1, lt_next hHeld.2.2.1 hb, lt_next hHeld.2.2.2.1 hb, row_next hHeld.2.2.2.2.1 hb, row_next hHeld.2.2.2.2.2.1 hb, belW_next hHeld.2.2.2.2.2.2.1 hb, bel_next hHeld.2.2.2.2.2.2.2 hb⟩
      clear hK K
      clear hHeld
      have hHeld := hHeld'
      clear hHeld'
      have HSZ : Hid (w2.heap.size ≤ wa3.heap.size) := hHeld.2.2.2.2.2.2.1.size
      clear hb
      (try simp only [Act.put, List.getElem_toArray, List.getElem_cons_zero, List.getElem_cons_succ, List.setIfInBounds_toArray, List.set_cons_zero, List.set_cons_succ])
      refine wpAnyH_take (i := 5) (v := ?_) rfl (by kernel_rfl) (by kernel_rfl) (by kernel_rfl) (fun _ _ _ h => h) (Or.inl ⟨by rfl, ?_⟩) (by assumption) ?_
      rotate_left
      · intro w' hSw
        (try dsimp only at hSw)
        go_simp
        all_goals (try with_reducible rfl)
      (try simp only [Act.put, List.getElem_toArray, List.getElem_cons_zero, List.getElem_cons_succ, List.setIfInBounds_toArray, List.set_cons_zero, List.set_cons_succ])
      refine wpAnyH_take (i := 6) (v := ?_) rfl (by kernel_rfl) (by kernel_rfl) (by kernel_rfl) (fun _ _ _ h => h) (Or.inl ⟨by rfl, ?_⟩) (by assumption) ?_
      rotate_left
      · intro w' hSw
        (try dsimp only at hSw)
        go_simp
        all_goals (try with_reducible rfl)
      (try simp only [Act.put, List.getElem_toArray, List.getElem_cons_zero, List.getElem_cons_succ, List.setIfInBounds_toArray, List.set_cons_zero, List.set_cons_succ])
      refine wpAnyH_take (i := 7) (v := ?_) rfl (by kernel_rfl) (by kernel_rfl) (by kernel_rfl) (fun _ _ _ h => h) (Or.inl ⟨by rfl, ?_⟩) (by assumption) ?_
      rotate_left
      · intro w' hSw
        (try dsimp only at hSw)
        go_simp
        all_goals (try with_reducible rfl)
      (try simp only [Act.put, List.getElem_toArray, List.getElem_cons_zero, List.getElem_cons_succ, List.setIfInBounds_toArray, List.set_cons_zero, List.set_cons_succ])
      obtain ⟨t0, T0⟩ := Option.isSome_iff_exists.1 (TH.out 0 (by omega)).1
      have Z0 := (TH.out 0 (by omega)).2
      obtain ⟨t1, T1⟩ := Option.isSome_iff_exists.1 (TH.out 1 (by omega)).1
      have Z1 := (TH.out 1 (by omega)).2
      obtain ⟨t2, T2⟩ := Option.isSome_iff_exists.1 (TH.out 2 (by omega)).1
      have Z2 := (TH.out 2 (by omega)).2
      obtain ⟨t3, T3⟩ := Option.isSome_iff_exists.1 (TH.out 3 (by omega)).1
      have Z3 := (TH.out 3 (by omega)).2
      refine wpAnyH_ready (rs := [9]) (by kernel_rfl) (by simp) ?_
      refine AllReadyH.cons rfl (fun K hK => ?_) AllReadyH.nil
      (try simp only [Act.put, List.getElem_toArray, List.getElem_cons_zero, List.getElem_cons_succ, List.setIfInBounds_toArray, List.set_cons_zero, List.set_cons_succ])
      go_simp
      (try simp only [])
      have GZ := GE.out
      have HW := hHeld.2.2.2.2.2.2.1
      refine hK.out _ _ ?_ (fun hHeld' => ?_)
      · (try dsimp only)
        exact ⟨cells_set4 hHeld.1 (by have := LA.out; omega), cells_set4 hHeld.2.1 (by have := LB.out; omega), (by simpa [World.setCell] using hHeld.2.2.1), (by simpa [World.setCell] using hHeld.2.2.2.1), (row_at RA (below_set4 HW GZ)), (row_at RB (below_set4 HW GZ)), below_set4 HW GZ, below_set4 hHeld.2.2.2.2.2.2.2 (Nat.le_trans HB.out.size GZ)⟩
      clear hK K hHeld
      have hHeld := hHeld'
      clear hHeld'
      (try simp only [Act.put, List.getElem_toArray, List.getElem_cons_zero, List.getElem_cons_succ, List.setIfInBounds_toArray, List.set_cons_zero, List.set_cons_succ])
      refine wpAnyH_take (i := 10) (v := ?_) rfl (by kernel_rfl) (by kernel_rfl) (by kernel_rfl) (fun _ _ _ h => h) (Or.inl ⟨by rfl, ?_⟩) (by assumption) ?_
      rotate_left
      · intro w' hSw
        (try dsimp only at hSw)
        go_simp
        all_goals (try with_reducible rfl)
      (try simp only [Act.put, List.getElem_toArray, List.getElem_cons_zero, List.getElem_cons_succ, List.setIfInBounds_toArray, List.set_cons_zero, List.set_cons_succ])
      refine wpAnyH_done (by kernel_rfl) ?_ _
      have CC := set4_cells (v := .slice vo J.length vc) (p := p) (q := q) (r := r) TH.out
      have C9 : Hid _ := CC
      have O9 : Hid _ := own_set4 (v0 := .slice vo J.length vc) (v1 := .int .i64 p) (v2 := .int .i64 q) (v3 := .int .i64 r) OV.out NV.out
      have B9 : Hid _ := below_set4 (v0 := .slice vo J.length vc) (v1 := .int .i64 p) (v2 := .int .i64 q) (v3 := .int .i64 r) HW GZ
      clear CC T0 T1 T2 T3 Z0 Z1 Z2 Z3 hHeld
      go_wp2
      go_meet
      case rel => exact ⟨w2.heap.size, vo, vc, rfl, rfl, C9.out, by simpa [World.setCell] using LG.out, GZ, O9.out, B9.out⟩
  case rest =>
    obtain ⟨gb, vo, vc, rfl, rfl, hC, hLb, hge, hOb, hb⟩ := hcut
    have BW : Hid (Cells4 wc gb (.slice vo J.length vc) p q r) := hC
    have LW : Hid (gb < wc.heap.size) := hLb
    have EW : Hid (wc.ownsRow 0 53 4 (.slice vo J.length vc) J.length (flat J)) := hOb
    have HX1 : Hid (w.heap.size + 1 < wc.heap.size ∧ gb < wc.heap.size ∧ ∀ k, (Value.slice vo J.length vc).ownBlock = some k → k < wc.heap.size) := ⟨Nat.lt_of_lt_of_le LB.out hb.size, hLb, fun k hk => (hOb.lt k hk).2⟩
    replace BA := c4_next BA hb LA
    replace BB := c4_next BB hb LB
    replace LA := lt_next LA hb
    replace LB := lt_next LB hb
    replace RA := row_next RA hb
    replace RB := row_next RB hb
    replace HB := bel_next HB hb
    clear hb hC hLb hge hOb
    obtain ⟨bA0, bA1, bA2, bA3⟩ := BA.out
    go_wp2_with fail
    clear bA0 bA1 bA2 bA3
    refine (toObj_any cap ao l a b c _ hm RA.out).mono ?_
    rintro e w6 ⟨gx, rfl, hb, hg, hG, hT, hS⟩
    replace BA := c4_next BA hb LA
    replace BB := c4_next BB hb LB
    replace BW := c4_next BW hb LW
    replace LA := lt_next LA hb
    replace LB := lt_next LB hb
    replace LW := lt_next LW hb
    replace RA := row_next RA hb
    replace RB := row_next RB hb
    replace HB := bel_next HB hb
    replace EW := own_hnext EW hb
    have HX2 : Hid (wc.heap.size ≤ gx ∧ gx < w6.heap.size) := ⟨hg, hG⟩
    have ETX : Hid (MRow w6 (some ⟨gx, 0, none⟩) l.length) := .inr ⟨gx, rfl, hG, hT⟩
    have RxA := row_of_at hS
    clear hb hg hG hT hS
    obtain ⟨bB0, bB1, bB2, bB3⟩ := BB.out
    have bB0' : ∀ o, (w6.alloc o).cell? ⟨w.heap.size + 1, 0, none⟩ = _ := fun o => box_alloc bB0 LB.out
    have bB1' : ∀ o, (w6.alloc o).cell? ⟨w.heap.size + 1, 1, none⟩ = _ := fun o => box_alloc bB1 LB.out
    have bB2' : ∀ o, (w6.alloc o).cell? ⟨w.heap.size + 1, 2, none⟩ = _ := fun o => box_alloc bB2 LB.out
    have bB3' : ∀ o, (w6.alloc o).cell? ⟨w.heap.size + 1, 3, none⟩ = _ := fun o => box_alloc bB3 LB.out
    go_wp2_with fail
    clear bB0 bB0' bB1 bB1' bB2 bB2' bB3 bB3'
    refine (toObj_any cp bo l2 x y z _ hm2 (row_next RB (bel_alloc _ _)).out).mono ?_
    rintro e w7 ⟨gy, rfl, hb, hg, hG, hT, hS⟩
    have BxA := c4_next box_new hb lt_new
    have LxA := lt_next lt_new hb
    have HX3 : Hid (w6.heap.size < gy ∧ gy < w7.heap.size) := ⟨Nat.lt_of_lt_of_le (by simp) hg, hG⟩
    replace BA := c4_next (c4_next BA (bel_alloc _ _) LA) hb (lt_next LA (bel_alloc _ _))
    replace BB := c4_next (c4_next BB (bel_alloc _ _) LB) hb (lt_next LB (bel_alloc _ _))
    replace BW := c4_next (c4_next BW (bel_alloc _ _) LW) hb (lt_next LW (bel_alloc _ _))
    replace LA := lt_next (lt_next LA (bel_alloc _ _)) hb
    replace LB := lt_next (lt_next LB (bel_alloc _ _)) hb
    replace LW := lt_next (lt_next LW (bel_alloc _ _)) hb
    replace RA := row_next (row_next RA (bel_alloc _ _)) hb
    replace RB := row_next (row_next RB (bel_alloc _ _)) hb
    replace RxA := row_next (row_next RxA (bel_alloc _ _)) hb
    replace HB := bel_next (bel_next HB (bel_alloc _ _)) hb
    replace EW := own_hnext (own_hnext EW (bel_alloc _ _)) hb
    replace ETX := mrow_next (mrow_next ETX (bel_alloc _ _)) hb
    have ETY : Hid (MRow w7 (some ⟨gy, 0, none⟩) l2.length) := .inr ⟨gy, rfl, hG, hT⟩
    have RxB := row_of_at hS
    clear hb hg hG hT hS
    obtain ⟨bxA0, bxA1, bxA2, bxA3⟩ := BxA.out
    have bxA0' : ∀ o, (w7.alloc o).cell? ⟨w6.heap.size, 0, none⟩ = _ := fun o => box_alloc bxA0 LxA.out
    have bxA1' : ∀ o, (w7.alloc o).cell? ⟨w6.heap.size, 1, none⟩ = _ := fun o => box_alloc bxA1 LxA.out
    have bxA2' : ∀ o, (w7.alloc o).cell? ⟨w6.heap.size, 2, none⟩ = _ := fun o => box_alloc bxA2 LxA.out
    have bxA3' : ∀ o, (w7.alloc o).cell? ⟨w6.heap.size, 3, none⟩ = _ := fun o => box_alloc bxA3 LxA.out
    go_wp2_with fail
    clear bxA0 bxA0' bxA1 bxA1' bxA2 bxA2' bxA3 bxA3'
    refine (join_wrap (implJoin_any l.length l2.length _ _ l l2 a b c x y z k0 k1 hO hP J p q r code hJ _ hm hm2 (Nat.le_refl _) (row_next RxA (bel_alloc _ _)).out (row_next RxB (bel_alloc _ _)).out)).mono ?_
    rintro e w8 ⟨vg, cg, rfl, hb, EG, FG⟩
    have BxB := c4_next box_new hb lt_new
    have LxB := lt_next lt_new hb
    have HX4 : Hid (w7.heap.size < w8.heap.size ∧ ∀ k, (Value.slice vg J.length cg).ownBlock = some k → w7.heap.size < k ∧ k < w8.heap.size) := ⟨Nat.lt_of_lt_of_le (by simp) hb.size, fun k hk => ⟨Nat.lt_of_lt_of_le (by simp) (FG.out k hk).1, (FG.out k hk).2⟩⟩
    replace BA := c4_next (c4_next BA (bel_alloc _ _) LA) hb (lt_next LA (bel_alloc _ _))
    replace BB := c4_next (c4_next BB (bel_alloc _ _) LB) hb (lt_next LB (bel_alloc _ _))
    replace BW := c4_next (c4_next BW (bel_alloc _ _) LW) hb (lt_next LW (bel_alloc _ _))
    replace BxA := c4_next (c4_next BxA (bel_alloc _ _) LxA) hb (lt_next LxA (bel_alloc _ _))
    replace LA := lt_next (lt_next LA (bel_alloc _ _)) hb
    replace LB := lt_next (lt_next LB (bel_alloc _ _)) hb
    replace LW := lt_next (lt_next LW (bel_alloc _ _)) hb
    replace LxA := lt_next (lt_next LxA (bel_alloc _ _)) hb
    replace RA := row_next (row_next RA (bel_alloc _ _)) hb
    replace RB := row_next (row_next RB (bel_alloc _ _)) hb
    replace RxA := row_next (row_next RxA (bel_alloc _ _)) hb
    replace RxB := row_next (row_next RxB (bel_alloc _ _)) hb
    replace HB := bel_next (bel_next HB (bel_alloc _ _)) hb
    replace EW := own_hnext (own_hnext EW (bel_alloc _ _)) hb
    replace ETX := mrow_next (mrow_next ETX (bel_alloc _ _)) hb
    replace ETY := mrow_next (mrow_next ETY (bel_alloc _ _)) hb
    clear hb FG
    obtain ⟨bW0, bW1, bW2, bW3⟩ := BW.out
    have bW0' : ∀ o, (w8.alloc o).cell? ⟨gb, 0, none⟩ = _ := fun o => box_alloc bW0 LW.out
    have bW1' : ∀ o, (w8.alloc o).cell? ⟨gb, 1, none⟩ = _ := fun o => box_alloc bW1 LW.out
    have bW2' : ∀ o, (w8.alloc o).cell? ⟨gb, 2, none⟩ = _ := fun o => box_alloc bW2 LW.out
    have bW3' : ∀ o, (w8.alloc o).cell? ⟨gb, 3, none⟩ = _ := fun o => box_alloc bW3 LW.out
    go_wp2_with fail
    clear bW0 bW0' bW1 bW1' bW2 bW2' bW3 bW3'
    refine (eqObj_same cg vc vg vo J p q r _ hJl (own_srow (own_hnext EG (bel_alloc _ _))) (own_srow (own_hnext EW (bel_alloc _ _)))).mono ?_
    rintro e w9 ⟨rfl, hb⟩
    have BG := c4_next box_new hb lt_new
    have LG := lt_next lt_new hb
    replace BA := c4_next (c4_next BA (bel_alloc _ _) LA) hb (lt_next LA (bel_alloc _ _))
    replace BB := c4_next (c4_next BB (bel_alloc _ _) LB) hb (lt_next LB (bel_alloc _ _))
    replace BW := c4_next (c4_next BW (bel_alloc _ _) LW) hb (lt_next LW (bel_alloc _ _))
    replace BxA := c4_next (c4_next BxA (bel_alloc _ _) LxA) hb (lt_next LxA (bel_alloc _ _))
    replace BxB := c4_next (c4_next BxB (bel_alloc _ _) LxB) hb (lt_next LxB (bel_alloc _ _))
    replace LA := lt_next (lt_next LA (bel_alloc _ _)) hb
    replace LB := lt_next (lt_next LB (bel_alloc _ _)) hb
    replace LW := lt_next (lt_next LW (bel_alloc _ _)) hb
    replace LxA := lt_next (lt_next LxA (bel_alloc _ _)) hb
    replace LxB := lt_next (lt_next LxB (bel_alloc _ _)) hb
    replace RA := row_next (row_next RA (bel_alloc _ _)) hb
    replace RB := row_next (row_next RB (bel_alloc _ _)) hb
    replace RxA := row_next (row_next RxA (bel_alloc _ _)) hb
    replace RxB := row_next (row_next RxB (bel_alloc _ _)) hb
    replace HB := bel_next (bel_next HB (bel_alloc _ _)) hb
    replace EW := own_hnext (own_hnext EW (bel_alloc _ _)) hb
    replace ETX := mrow_next (mrow_next ETX (bel_alloc _ _)) hb
    replace ETY := mrow_next (mrow_next ETY (bel_alloc _ _)) hb
    replace EG := own_hnext (own_hnext EG (bel_alloc _ _)) hb
    clear hb
    go_wp2_with fail
    refine wp_region_held_drew (S := (fun w' => (w'.cell? ⟨w.heap.size, 0, none⟩ = some (Value.slice ao l.length cap) ∧ w'.cell? ⟨w.heap.size, 1, none⟩ = some (.int .i64 a) ∧ w'.cell? ⟨w.heap.size, 2, none⟩ = some (.int .i64 b) ∧ w'.cell? ⟨w.heap.size, 3, none⟩ = some (.int .i64 c)) ∧ (w'.cell? ⟨w.heap.size + 1, 0, none⟩ = some (Value.slice bo l2.length cp) ∧ w'.cell? ⟨w.heap.size + 1, 1, none⟩ = some (.int .i64 x) ∧ w'.cell? ⟨w.heap.size + 1, 2, none⟩ = some (.int .i64 y) ∧ w'.cell? ⟨w.heap.size + 1, 3, none⟩ = some (.int .i64 z)) ∧ (w'.cell? ⟨gb, 0, none⟩ = some (Value.slice vo J.length vc) ∧ w'.cell? ⟨gb, 1, none⟩ = some (.int .i64 p) ∧ w'.cell? ⟨gb, 2, none⟩ = some (.int .i64 q) ∧ w'.cell? ⟨gb, 3, none⟩ = some (.int .i64 r)) ∧ (w'.cell? ⟨w6.heap.size, 0, none⟩ = some (Value.slice (some ⟨gx, 0, none⟩) l.length l.length) ∧ w'.cell? ⟨w6.heap.size, 1, none⟩ = some (.int .i64 a) ∧ w'.cell? ⟨w6.heap.size, 2, none⟩ = some (.int .i64 b) ∧ w'.cell? ⟨w6.heap.size, 3, none⟩ = some (.int .i64 c)) ∧ (w'.cell? ⟨w7.heap.size, 0, none⟩ = some (Value.slice (some ⟨gy, 0, none⟩) l2.length l2.length) ∧ w'.cell? ⟨w7.heap.size, 1, none⟩ = some (.int .i64 x) ∧ w'.cell? ⟨w7.heap.size, 2, none⟩ = some (.int .i64 y) ∧ w'.cell? ⟨w7.heap.size, 3, none⟩ = some (.int .i64 z)) ∧ (w'.cell? ⟨w8.heap.size, 0, none⟩ = some (Value.slice vg J.length cg) ∧ w'.cell? ⟨w8.heap.size, 1, none⟩ = some (.int .i64 p) ∧ w'.cell? ⟨w8.heap.size, 2, none⟩ = some (.int .i64 q) ∧ w'.cell? ⟨w8.heap.size, 3, none⟩ = some (.int .i64 r)) ∧ (w.heap.size < w'.heap.size) ∧ (w.heap.size + 1 < w'.heap.size) ∧ (gb < w'.heap.size) ∧ (w6.heap.size < w'.heap.size) ∧ (w7.heap.size < w'.heap.size) ∧ (w8.heap.size < w'.heap.size) ∧ SibRow w' (ao) l ∧ SibRow w' (bo) l2 ∧ SibRow w' (some ⟨gx, 0, none⟩) l ∧ SibRow w' (some ⟨gy, 0, none⟩) l2 ∧ w'.ownsRow 0 53 4 (.slice vo J.length vc) J.length (flat J) ∧ MRow w' (some ⟨gx, 0, none⟩) l.length ∧ MRow w' (some ⟨gy, 0, none⟩) l2.length ∧ w'.ownsRow 0 53 4 (.slice vg J.length cg) J.length (flat J) ∧ Below w.heap.size w w')) (by kernel_rfl) ?_ (fun hHeld => ?_)
    · (try dsimp only)
      exact ⟨BA.out, BB.out, BW.out, BxA.out, BxB.out, BG.out, LA.out, LB.out, LW.out, LxA.out, LxB.out, LG.out, RA.out, RB.out, RxA.out, RxB.out, EW.out, ETX.out, ETY.out, EG.out, (bel_next HB (bel_drew _)).out⟩
    refine wpAnyH_take (i := 0) (v := ?_) rfl (by kernel_rfl) (by kernel_rfl) (by kernel_rfl) (fun _ _ _ h => h) (Or.inl ⟨by rfl, ?_⟩) (by assumption) ?_
    rotate_left
    · intro w' hSw
      (try dsimp only at hSw)
      go_simp
      all_goals (try with_reducible rfl)
    (try simp only [Act.put, List.getElem_toArray, List.getElem_cons_zero, List.getElem_cons_succ, List.setIfInBounds_toArray, List.set_cons_zero, List.set_cons_succ])
    refine wpAnyH_take (i := 1) (v := ?_) rfl (by kernel_rfl) (by kernel_rfl) (by kernel_rfl) (fun _ _ _ h => h) (Or.inl ⟨by rfl, ?_⟩) (by assumption) ?_
    rotate_left
    · intro w' hSw
      (try dsimp only at hSw)
      go_simp
      all_goals (try with_reducible rfl)
    (try simp only [Act.put, List.getElem_toArray, List.getElem_cons_zero, List.getElem_cons_succ, List.setIfInBounds_toArray, List.set_cons_zero, List.set_cons_succ])
    refine wpAnyH_ready (rs := [2]) (by kernel_rfl) (by simp) ?_
    refine AllReadyH.cons rfl (fun K hK => ?_) AllReadyH.nil
    (try simp only [Act.put, List.getElem_toArray, List.getElem_cons_zero, List.getElem_cons_succ, List.setIfInBounds_toArray, List.set_cons_zero, List.set_cons_succ])
    go_simp
    (go_at_call 8; refine (toObj_any cap ao l a b c _ hm hHeld.2.2.2.2.2.2.2.2.2.2.2.2.1).mono ?_; rintro e w10 ⟨g9, rfl, hb, hg, hG, hT, hS⟩; have RT := row_of_at hS; clear hg hG hT hS)
    (try simp only [])
    refine hK.out _ _ ?_ (fun hHeld' => ?_)
    · (try dsimp only)
      exact ⟨c4_next hHeld.1 hb hHeld.2.2.2.2.2.2.1, c4_next hHeld.2.1 hb hHeld.2.2.2.2.2.2.2.1, c4_next hHeld.2.2.1 hb hHeld.2.2.2.2.2.2.2.2.1, c4_next hHeld.2.2.2.1 hb hHeld.2.2.2.2.2.2.2.2.2.1, c4_next hHeld.2.2.2.2.1 hb hHeld.2.2.2.2.2.2.2.2.2.2.1, c4_next hHeld.2.2.2.2.2.1 hb hHeld.2.2.2.2.2.2.2.2.2.2.2.1, lt_next hHeld.2.2.2.2.2.2.1 hb, lt_next hHeld.2.2.2.2.2.2.2.1 hb, lt_next hHeld.2.2.2.2.2.2.2.2.1 hb, lt_next hHeld.2.2.2.2.2.2.2.2.2.1 hb, lt_next hHeld.2.2.2.2.2.2.2.2.2.2.1 hb, lt_next hHeld.2.2.2.2.2.2.2.2.2.2.2.1 hb, row_next hHeld.2.2.2.2.2.2.2.2.2.2.2.2.1 hb, row_next hHeld.2.2.2.2.2.2.2.2.2.2.2.2.2.1 hb, row_next hHeld.2.2.2.2.2.2.2.2.2.2.2.2.2.2.1 hb, row_next hHeld.2.2.2.2.2.2.2.2.2.2.2.2.2.2.2.1 hb, own_hnext hHeld.2.2.2.2.2.2.2.2.2.2.2.2.2.2.2.2.1 hb, mrow_next hHeld.2.2.2.2.2.2.2.2.2.2.2.2.2.2.2.2.2.1 hb, mrow_next hHeld.2.2.2.2.2.2.2.2.2.2.2.2.2.2.2.2.2.2.1 hb, own_hnext hHeld.2.2.2.2.2.2.2.2.2.2.2.2.2.2.2.2.2.2.2.1 hb, bel_next hHeld.2.2.2.2.2.2.2.2.2.2.2.2.2.2.2.2.2.2.2.2 hb⟩
    clear hK K
    clear hHeld
    have hHeld := hHeld'
    clear hHeld'
    clear hb
    (try simp only [Act.put, List.getElem_toArray, List.getElem_cons_zero, List.getElem_cons_succ, List.setIfInBounds_toArray, List.set_cons_zero, List.set_cons_succ])
    refine wpAnyH_ready (rs := [3]) (by kernel_rfl) (by simp) ?_
    refine AllReadyH.cons rfl (fun K hK => ?_) AllReadyH.nil
    (try simp only [Act.put, List.getElem_toArray, List.getElem_cons_zero, List.getElem_cons_succ, List.setIfInBounds_toArray, List.set_cons_zero, List.set_cons_succ])
    go_simp
    (go_at_call 10; refine (eqObj_same l.length l.length _ _ l a b c _ hm hHeld.2.2.2.2.2.2.2.2.2.2.2.2.2.2.1 RT.out).mono ?_; rintro e w11 ⟨rfl, hb⟩)
    (try simp only [])
    refine hK.out _ _ ?_ (fun hHeld' => ?_)
    · (try dsimp only)
      exact ⟨c4_next hHeld.1 hb hHeld.2.2.2.2.2.2.1, c4_next hHeld.2.1 hb hHeld.2.2.2.2.2.2.2.1, c4_next hHeld.2.2.1 hb hHeld.2.2.2.2.2.2.2.2.1, c4_next hHeld.2.2.2.1 hb hHeld.2.2.2.2.2.2.2.2.2.1, c4_next hHeld.2.2.2.2.1 hb hHeld.2.2.2.2.2.2.2.2.2.2.1, c4_next hHeld.2.2.2.2.2.1 hb hHeld.2.2.2.2.2.2.2.2.2.2.2.1, lt_next hHeld.2.2.2.2.2.2.1 hb, lt_next hHeld.2.2.2.2.2.2.2.1 hb, lt_next hHeld.2.2.2.2.2.2.2.2.1 hb, lt_next hHeld.2.2.2.2.2.2.2.2.2.1 hb, lt_next hHeld.2.2.2.2.2.2.2.2.2.2.1 hb, lt_next hHeld.2.2.2.2.2.2.2.2.2.2.2.1 hb, row_next hHeld.2.2.2.2.2.2.2.2.2.2.2.2.1 hb, row_next hHeld.2.2.2.2.2.2.2.2.2.2.2.2.2.1 hb, row_next hHeld.2.2.2.2.2.2.2.2.2.2.2.2.2.2.1 hb, row_next hHeld.2.2.2.2.2.2.2.2.2.2.2.2.2.2.2.1 hb, own_hnext hHeld.2.2.2.2.2.2.2.2.2.2.2.2.2.2.2.2.1 hb, mrow_next hHeld.2.2.2.2.2.2.2.2.2.2.2.2.2.2.2.2.2.1 hb, mrow_next hHeld.2.2.2.2.2.2.2.2.2.2.2.2.2.2.2.2.2.2.1 hb, own_hnext hHeld.2.2.2.2.2.2.2.2.2.2.2.2.2.2.2.2.2.2.2.1 hb, bel_next hHeld.2.2.2.2.2.2.2.2.2.2.2.2.2.2.2.2.2.2.2.2 hb⟩
    clear hK K
    clear hHeld
    have hHeld := hHeld'
    clear hHeld'
    clear hb
    (try simp only [Act.put, List.getElem_toArray, List.getElem_cons_zero, List.getElem_cons_succ, List.setIfInBounds_toArray, List.set_cons_zero, List.set_cons_succ])
    refine wpAnyH_take (i := 4) (v := ?_) rfl (by kernel_rfl) (by kernel_rfl) (by kernel_rfl) (fun _ _ _ h => h) (Or.inl ⟨by rfl, ?_⟩) (by assumption) ?_
    rotate_left
    · intro w' hSw
      (try dsimp only at hSw)
      go_simp
      all_goals (try with_reducible rfl)
    (try simp only [Act.put, List.getElem_toArray, List.getElem_cons_zero, List.getElem_cons_succ, List.setIfInBounds_toArray, List.set_cons_zero, List.set_cons_succ])
    refine wpAnyH_done (by kernel_rfl) ?_ _
    replace BA : Hid _ := hHeld.1
    replace BB : Hid _ := hHeld.2.1
    replace BW : Hid _ := hHeld.2.2.1
    replace BxA : Hid _ := hHeld.2.2.2.1
    replace BxB : Hid _ := hHeld.2.2.2.2.1
    replace BG : Hid _ := hHeld.2.2.2.2.2.1
    replace LA : Hid _ := hHeld.2.2.2.2.2.2.1
    replace LB : Hid _ := hHeld.2.2.2.2.2.2.2.1
    replace LW : Hid _ := hHeld.2.2.2.2.2.2.2.2.1
    replace LxA : Hid _ := hHeld.2.2.2.2.2.2.2.2.2.1
    replace LxB : Hid _ := hHeld.2.2.2.2.2.2.2.2.2.2.1
    replace LG : Hid _ := hHeld.2.2.2.2.2.2.2.2.2.2.2.1
    replace RA : Hid _ := hHeld.2.2.2.2.2.2.2.2.2.2.2.2.1
    replace RB : Hid _ := hHeld.2.2.2.2.2.2.2.2.2.2.2.2.2.1
    replace RxA : Hid _ := hHeld.2.2.2.2.2.2.2.2.2.2.2.2.2.2.1
    replace RxB : Hid _ := hHeld.2.2.2.2.2.2.2.2.2.2.2.2.2.2.2.1
    replace EW : Hid _ := hHeld.2.2.2.2.2.2.2.2.2.2.2.2.2.2.2.2.1
    replace ETX : Hid _ := hHeld.2.2.2.2.2.2.2.2.2.2.2.2.2.2.2.2.2.1
    replace ETY : Hid _ := hHeld.2.2.2.2.2.2.2.2.2.2.2.2.2.2.2.2.2.2.1
    replace EG : Hid _ := hHeld.2.2.2.2.2.2.2.2.2.2.2.2.2.2.2.2.2.2.2.1
    replace HB : Hid _ := hHeld.2.2.2.2.2.2.2.2.2.2.2.2.2.2.2.2.2.2.2.2
    clear hHeld
    clear RT
    go_wp2_with fail
    refine wp_region_held_drew (S := (fun w' => (w'.cell? ⟨w.heap.size, 0, none⟩ = some (Value.slice ao l.length cap) ∧ w'.cell? ⟨w.heap.size, 1, none⟩ = some (.int .i64 a) ∧ w'.cell? ⟨w.heap.size, 2, none⟩ = some (.int .i64 b) ∧ w'.cell? ⟨w.heap.size, 3, none⟩ = some (.int .i64 c)) ∧ (w'.cell? ⟨w.heap.size + 1, 0, none⟩ = some (Value.slice bo l2.length cp) ∧ w'.cell? ⟨w.heap.size + 1, 1, none⟩ = some (.int .i64 x) ∧ w'.cell? ⟨w.heap.size + 1, 2, none⟩ = some (.int .i64 y) ∧ w'.cell? ⟨w.heap.size + 1, 3, none⟩ = some (.int .i64 z)) ∧ (w'.cell? ⟨gb, 0, none⟩ = some (Value.slice vo J.length vc) ∧ w'.cell? ⟨gb, 1, none⟩ = some (.int .i64 p) ∧ w'.cell? ⟨gb, 2, none⟩ = some (.int .i64 q) ∧ w'.cell? ⟨gb, 3, none⟩ = some (.int .i64 r)) ∧ (w'.cell? ⟨w6.heap.size, 0, none⟩ = some (Value.slice (some ⟨gx, 0, none⟩) l.length l.length) ∧ w'.cell? ⟨w6.heap.size, 1, none⟩ = some (.int .i64 a) ∧ w'.cell? ⟨w6.heap.size, 2, none⟩ = some (.int .i64 b) ∧ w'.cell? ⟨w6.heap.size, 3, none⟩ = some (.int .i64 c)) ∧ (w'.cell? ⟨w7.heap.size, 0, none⟩ = some (Value.slice (some ⟨gy, 0, none⟩) l2.length l2.length) ∧ w'.cell? ⟨w7.heap.size, 1, none⟩ = some (.int .i64 x) ∧ w'.cell? ⟨w7.heap.size, 2, none⟩ = some (.int .i64 y) ∧ w'.cell? ⟨w7.heap.size, 3, none⟩ = some (.int .i64 z)) ∧ (w'.cell? ⟨w8.heap.size, 0, none⟩ = some (Value.slice vg J.length cg) ∧ w'.cell? ⟨w8.heap.size, 1, none⟩ = some (.int .i64 p) ∧ w'.cell? ⟨w8.heap.size, 2, none⟩ = some (.int .i64 q) ∧ w'.cell? ⟨w8.heap.size, 3, none⟩ = some (.int .i64 r)) ∧ (w.heap.size < w'.heap.size) ∧ (w.heap.size + 1 < w'.heap.size) ∧ (gb < w'.heap.size) ∧ (w6.heap.size < w'.heap.size) ∧ (w7.heap.size < w'.heap.size) ∧ (w8.heap.size < w'.heap.size) ∧ SibRow w' (ao) l ∧ SibRow w' (bo) l2 ∧ SibRow w' (some ⟨gx, 0, none⟩) l ∧ SibRow w' (some ⟨gy, 0, none⟩) l2 ∧ w'.ownsRow 0 53 4 (.slice vo J.length vc) J.length (flat J) ∧ MRow w' (some ⟨gx, 0, none⟩) l.length ∧ MRow w' (some ⟨gy, 0, none⟩) l2.length ∧ w'.ownsRow 0 53 4 (.slice vg J.length cg) J.length (flat J) ∧ Below w.heap.size w w')) (by kernel_rfl) ?_ (fun hHeld => ?_)
    · (try dsimp only)
      exact ⟨BA.out, BB.out, BW.out, BxA.out, BxB.out, BG.out, LA.out, LB.out, LW.out, LxA.out, LxB.out, LG.out, RA.out, RB.out, RxA.out, RxB.out, EW.out, ETX.out, ETY.out, EG.out, (bel_next HB (bel_drew _)).out⟩
    refine wpAnyH_take (i := 0) (v := ?_) rfl (by kernel_rfl) (by kernel_rfl) (by kernel_rfl) (fun _ _ _ h => h) (Or.inl ⟨by rfl, ?_⟩) (by assumption) ?_
    rotate_left
    · intro w' hSw
      (try dsimp only at hSw)
      go_simp
      all_goals (try with_reducible rfl)
    (try simp only [Act.put, List.getElem_toArray, List.getElem_cons_zero, List.getElem_cons_succ, List.setIfInBounds_toArray, List.set_cons_zero, List.set_cons_succ])
    refine wpAnyH_take (i := 1) (v := ?_) rfl (by kernel_rfl) (by kernel_rfl) (by kernel_rfl) (fun _ _ _ h => h) (Or.inl ⟨by rfl, ?_⟩) (by assumption) ?_
    rotate_left
    · intro w' hSw
      (try dsimp only at hSw)
      go_simp
      all_goals (try with_reducible rfl)
    (try simp only [Act.put, List.getElem_toArray, List.getElem_cons_zero, List.getElem_cons_succ, List.setIfInBounds_toArray, List.set_cons_zero, List.set_cons_succ])
    refine wpAnyH_ready (rs := [2]) (by kernel_rfl) (by simp) ?_
    refine AllReadyH.cons rfl (fun K hK => ?_) AllReadyH.nil
    (try simp only [Act.put, List.getElem_toArray, List.getElem_cons_zero, List.getElem_cons_succ, List.setIfInBounds_toArray, List.set_cons_zero, List.set_cons_succ])
    go_simp
    (go_at_call 8; refine (toObj_any cp bo l2 x y z _ hm2 hHeld.2.2.2.2.2.2.2.2.2.2.2.2.2.1).mono ?_; rintro e w12 ⟨g9, rfl, hb, hg, hG, hT, hS⟩; have RT := row_of_at hS; clear hg hG hT hS)
    (try simp only [])
    refine hK.out _ _ ?_ (fun hHeld' => ?_)
    · (try dsimp only)
      exact ⟨c4_next hHeld.1 hb hHeld.2.2.2.2.2.2.1, c4_next hHeld.2.1 hb hHeld.2.2.2.2.2.2.2.1, c4_next hHeld.2.2.1 hb hHeld.2.2.2.2.2.2.2.2.1, c4_next hHeld.2.2.2.1 hb hHeld.2.2.2.2.2.2.2.2.2.1, c4_next hHeld.2.2.2.2.1 hb hHeld.2.2.2.2.2.2.2.2.2.2.1, c4_next hHeld.2.2.2.2.2.1 hb hHeld.2.2.2.2.2.2.2.2.2.2.2.1, lt_next hHeld.2.2.2.2.2.2.1 hb, lt_next hHeld.2.2.2.2.2.2.2.1 hb, lt_next hHeld.2.2.2.2.2.2.2.2.1 hb, lt_next hHeld.2.2.2.2.2.2.2.2.2.1 hb, lt_next hHeld.2.2.2.2.2.2.2.2.2.2.1 hb, lt_next hHeld.2.2.2.2.2.2.2.2.2.2.2.1 hb, row_next hHeld.2.2.2.2.2.2.2.2.2.2.2.2.1 hb, row_next hHeld.2.2.2.2.2.2.2.2.2.2.2.2.2.1 hb, row_next hHeld.2.2.2.2.2.2.2.2.2.2.2.2.2.2.1 hb, row_next hHeld.2.2.2.2.2.2.2.2.2.2.2.2.2.2.2.1 hb, own_hnext hHeld.2.2.2.2.2.2.2.2.2.2.2.2.2.2.2.2.1 hb, mrow_next hHeld.2.2.2.2.2.2.2.2.2.2.2.2.2.2.2.2.2.1 hb, mrow_next hHeld.2.2.2.2.2.2.2.2.2.2.2.2.2.2.2.2.2.2.1 hb, own_hnext hHeld.2.2.2.2.2.2.2.2.2.2.2.2.2.2.2.2.2.2.2.1 hb, bel_next hHeld.2.2.2.2.2.2.2.2.2.2.2.2.2.2.2.2.2.2.2.2 hb⟩
    clear hK K
    clear hHeld
    have hHeld := hHeld'
    clear hHeld'
    clear hb
    (try simp only [Act.put, List.getElem_toArray, List.getElem_cons_zero, List.getElem_cons_succ, List.setIfInBounds_toArray, List.set_cons_zero, List.set_cons_succ])
    refine wpAnyH_ready (rs := [3]) (by kernel_rfl) (by simp) ?_
    refine AllReadyH.cons rfl (fun K hK => ?_) AllReadyH.nil
    (try simp only [Act.put, List.getElem_toArray, List.getElem_cons_zero, List.getElem_cons_succ, List.setIfInBounds_toArray, List.set_cons_zero, List.set_cons_succ])
    go_simp
    (go_at_call 10; refine (eqObj_same l2.length l2.length _ _ l2 x y z _ hm2 hHeld.2.2.2.2.2.2.2.2.2.2.2.2.2.2.2.1 RT.out).mono ?_; rintro e w13 ⟨rfl, hb⟩)
    (try simp only [])
    refine hK.out _ _ ?_ (fun hHeld' => ?_)
    · (try dsimp only)
      exact ⟨c4_next hHeld.1 hb hHeld.2.2.2.2.2.2.1, c4_next hHeld.2.1 hb hHeld.2.2.2.2.2.2.2.1, c4_next hHeld.2.2.1 hb hHeld.2.2.2.2.2.2.2.2.1, c4_next hHeld.2.2.2.1 hb hHeld.2.2.2.2.2.2.2.2.2.1, c4_next hHeld.2.2.2.2.1 hb hHeld.2.2.2.2.2.2.2.2.2.2.1, c4_next hHeld.2.2.2.2.2.1 hb hHeld.2.2.2.2.2.2.2.2.2.2.2.1, lt_next hHeld.2.2.2.2.2.2.1 hb, lt_next hHeld.2.2.2.2.2.2.2.1 hb, lt_next hHeld.2.2.2.2.2.2.2.2.1 hb, lt_next hHeld.2.2.2.2.2.2.2.2.2.1 hb, lt_next hHeld.2.2.2.2.2.2.2.2.2.2.1 hb, lt_next hHeld.2.2.2.2.2.2.2.2.2.2.2.1 hb, row_next hHeld.2.2.2.2.2.2.2.2.2.2.2.2.1 hb, row_next hHeld.2.2.2.2.2.2.2.2.2.2.2.2.2.1 hb, row_next hHeld.2.2.2.2.2.2.2.2.2.2.2.2.2.2.1 hb, row_next hHeld.2.2.2.2.2.2.2.2.2.2.2.2.2.2.2.1 hb, own_hnext hHeld.2.2.2.2.2.2.2.2.2.2.2.2.2.2.2.2.1 hb, mrow_next hHeld.2.2.2.2.2.2.2.2.2.2.2.2.2.2.2.2.2.1 hb, mrow_next hHeld.2.2.2.2.2.2.2.2.2.2.2.2.2.2.2.2.2.2.1 hb, own_hnext hHeld.2.2.2.2.2.2.2.2.2.2.2.2.2.2.2.2.2.2.2.1 hb, bel_next hHeld.2.2.2.2.2.2.2.2.2.2.2.2.2.2.2.2.2.2.2.2 hb⟩
    clear hK K
    clear hHeld
    have hHeld := hHeld'
    clear hHeld'
    clear hb
    (try simp only [Act.put, List.getElem_toArray, List.getElem_cons_zero, List.getElem_cons_succ, List.setIfInBounds_toArray, List.set_cons_zero, List.set_cons_succ])
    refine wpAnyH_take (i := 4) (v := ?_) rfl (by kernel_rfl) (by kernel_rfl) (by kernel_rfl) (fun _ _ _ h => h) (Or.inl ⟨by rfl, ?_⟩) (by assumption) ?_
    rotate_left
    · intro w' hSw
      (try dsimp only at hSw)
      go_simp
      all_goals (try with_reducible rfl)
    (try simp only [Act.put, List.getElem_toArray, List.getElem_cons_zero, List.getElem_cons_succ, List.setIfInBounds_toArray, List.set_cons_zero, List.set_cons_succ])
    refine wpAnyH_done (by kernel_rfl) ?_ _
    replace BA : Hid _ := hHeld.1
    replace BB : Hid _ := hHeld.2.1
    replace BW : Hid _ := hHeld.2.2.1
    replace BxA : Hid _ := hHeld.2.2.2.1
    replace BxB : Hid _ := hHeld.2.2.2.2.1
    replace BG : Hid _ := hHeld.2.2.2.2.2.1
    replace LA : Hid _ := hHeld.2.2.2.2.2.2.1
    replace LB : Hid _ := hHeld.2.2.2.2.2.2.2.1
    replace LW : Hid _ := hHeld.2.2.2.2.2.2.2.2.1
    replace LxA : Hid _ := hHeld.2.2.2.2.2.2.2.2.2.1
    replace LxB : Hid _ := hHeld.2.2.2.2.2.2.2.2.2.2.1
    replace LG : Hid _ := hHeld.2.2.2.2.2.2.2.2.2.2.2.1
    replace RA : Hid _ := hHeld.2.2.2.2.2.2.2.2.2.2.2.2.1
    replace RB : Hid _ := hHeld.2.2.2.2.2.2.2.2.2.2.2.2.2.1
    replace RxA : Hid _ := hHeld.2.2.2.2.2.2.2.2.2.2.2.2.2.2.1
    replace RxB : Hid _ := hHeld.2.2.2.2.2.2.2.2.2.2.2.2.2.2.2.1
    replace EW : Hid _ := hHeld.2.2.2.2.2.2.2.2.2.2.2.2.2.2.2.2.1
    replace ETX : Hid _ := hHeld.2.2.2.2.2.2.2.2.2.2.2.2.2.2.2.2.2.1
    replace ETY : Hid _ := hHeld.2.2.2.2.2.2.2.2.2.2.2.2.2.2.2.2.2.2.1
    replace EG : Hid _ := hHeld.2.2.2.2.2.2.2.2.2.2.2.2.2.2.2.2.2.2.2.1
    replace HB : Hid _ := hHeld.2.2.2.2.2.2.2.2.2.2.2.2.2.2.2.2.2.2.2.2
    clear hHeld
    clear RT
    obtain ⟨bxA0, bxA1, bxA2, bxA3⟩ := BxA.out
    go_wp2_with fail
    clear bxA0 bxA1 bxA2 bxA3
    refine (markO_any l.length l.length (some ⟨gx, 0, none⟩) a b c 1 _ (by omega) (by omega) (by omega) ETX.out).mono ?_
    rintro e w14 ⟨rfl, hg, hM⟩
    clear hM ETX RxA
    clear BxA LxA
    have hgx : Value.ownBlock (.slice (some ⟨gx, 0, none⟩) l.length l.length) = some gx := rfl
    rw [hgx] at hg
    clear hgx
    replace HB := bel_mark HB hg (fun k hk => by have h1 := HX1.out; have h2 := HX2.out; cases hk; omega)
    replace BA := c4_mark BA hg (fun e => by have h1 := HX1.out; have h2 := HX2.out; have h3 := HX3.out; have h4 := HX4.out; cases e; omega)
    replace LA := lt_mark LA hg
    replace BB := c4_mark BB hg (fun e => by have h1 := HX1.out; have h2 := HX2.out; have h3 := HX3.out; have h4 := HX4.out; cases e; omega)
    replace LB := lt_mark LB hg
    replace BW := c4_mark BW hg (fun e => by have h1 := HX1.out; have h2 := HX2.out; have h3 := HX3.out; have h4 := HX4.out; cases e; omega)
    replace LW := lt_mark LW hg
    replace BxB := c4_mark BxB hg (fun e => by have h1 := HX1.out; have h2 := HX2.out; have h3 := HX3.out; have h4 := HX4.out; cases e; omega)
    replace LxB := lt_mark LxB hg
    replace BG := c4_mark BG hg (fun e => by have h1 := HX1.out; have h2 := HX2.out; have h3 := HX3.out; have h4 := HX4.out; cases e; omega)
    replace LG := lt_mark LG hg
    replace EW := own_mark EW hg (fun k hk e => by have h1 := HX1.out.2.2 k hk; have h2 := HX2.out; cases e; omega)
    replace EG := own_mark EG hg (fun k hk e => by have h1 := (HX4.out.2 k hk).1; have h2 := HX2.out; have h3 := HX3.out; cases e; omega)
    replace ETY := mrow_mark ETY hg (fun q hq e => by have h2 := HX2.out; have h3 := HX3.out; cases hq; simp at e; omega)
    clear hg RxB
    obtain ⟨bxB0, bxB1, bxB2, bxB3⟩ := BxB.out
    go_wp2_with fail
    clear bxB0 bxB1 bxB2 bxB3
    refine (markO_any l2.length l2.length (some ⟨gy, 0, none⟩) x y z _ _ (by omega) (by omega) (by omega) ETY.out).mono ?_
    rintro e w15 ⟨rfl, hg, hM⟩
    clear hM ETY BxB LxB
    have hgy : Value.ownBlock (.slice (some ⟨gy, 0, none⟩) l2.length l2.length) = some gy := rfl
    rw [hgy] at hg
    clear hgy
    replace HB := bel_mark HB hg (fun k hk => by have h1 := HX1.out; have h2 := HX2.out; have h3 := HX3.out; cases hk; omega)
    replace BA := c4_mark BA hg (fun e => by have h1 := HX1.out; have h2 := HX2.out; have h3 := HX3.out; have h4 := HX4.out; cases e; omega)
    replace LA := lt_mark LA hg
    replace BB := c4_mark BB hg (fun e => by have h1 := HX1.out; have h2 := HX2.out; have h3 := HX3.out; have h4 := HX4.out; cases e; omega)
    replace LB := lt_mark LB hg
    replace BW := c4_mark BW hg (fun e => by have h1 := HX1.out; have h2 := HX2.out; have h3 := HX3.out; have h4 := HX4.out; cases e; omega)
    replace LW := lt_mark LW hg
    replace BG := c4_mark BG hg (fun e => by have h1 := HX1.out; have h2 := HX2.out; have h3 := HX3.out; have h4 := HX4.out; cases e; omega)
    replace LG := lt_mark LG hg
    replace EW := own_mark EW hg (fun k hk e => by have h1 := HX1.out.2.2 k hk; have h2 := HX2.out; have h3 := HX3.out; cases e; omega)
    replace EG := own_mark EG hg (fun k hk e => by have h1 := (HX4.out.2 k hk).1; have h3 := HX3.out; cases e; omega)
    clear hg
    clear RA RB
    obtain ⟨bG0, bG1, bG2, bG3⟩ := BG.out
    obtain ⟨bW0, bW1, bW2, bW3⟩ := BW.out
    go_wp2_with fail
    clear bG0 bG1 bG2 bG3
    clear bW0 bW1 bW2 bW3
    refine (eqObj_same cg vc vg vo J p q r _ hJl (own_srow EG) (own_srow EW)).mono ?_
    rintro e w16 ⟨rfl, hb⟩
    replace BA := c4_next BA hb LA
    replace BB := c4_next BB hb LB
    replace BW := c4_next BW hb LW
    replace BG := c4_next BG hb LG
    replace LA := lt_next LA hb
    replace LB := lt_next LB hb
    replace LW := lt_next LW hb
    replace LG := lt_next LG hb
    replace HB := bel_next HB hb
    replace EW := own_hnext EW hb
    replace EG := own_hnext EG hb
    clear hb
    obtain ⟨bG0, bG1, bG2, bG3⟩ := BG.out
    go_wp2_with fail
    clear bG0 bG1 bG2 bG3
    refine (markO_any J.length cg vg p q r 1 _ (by omega) (by omega) (by omega) (own_mrow EG).out).mono ?_
    rintro e w17 ⟨rfl, hg, hM⟩
    have EM : Hid (MkRow w17 vg 1 J.length) := hM
    clear hM EG
    replace HB := bel_mark HB hg (fun k hk => by have h1 := HX1.out; have h2 := HX2.out; have h3 := HX3.out; have h4 := (HX4.out.2 k hk).1; omega)
    replace BA := c4_mark BA hg (fun e => by have h1 := HX1.out; have h2 := HX2.out; have h3 := HX3.out; have h4 := HX4.out.2 _ e; omega)
    replace LA := lt_mark LA hg
    replace BB := c4_mark BB hg (fun e => by have h1 := HX1.out; have h2 := HX2.out; have h3 := HX3.out; have h4 := HX4.out.2 _ e; omega)
    replace LB := lt_mark LB hg
    replace BW := c4_mark BW hg (fun e => by have h1 := HX1.out; have h2 := HX2.out; have h3 := HX3.out; have h4 := HX4.out.2 _ e; omega)
    replace LW := lt_mark LW hg
    replace BG := c4_mark BG hg (fun e => by have h1 := HX1.out; have h2 := HX2.out; have h3 := HX3.out; have h4 := HX4.out.2 _ e; omega)
    replace LG := lt_mark LG hg
    replace EW := own_mark EW hg (fun k hk e => by have h1 := HX1.out.2.2 k hk; have h2 := HX2.out; have h3 := HX3.out; have h4 := HX4.out.2 _ e; omega)
    clear hg
    obtain ⟨bG0, bG1, bG2, bG3⟩ := BG.out
    go_wp2_with fail
    clear bG0 bG1 bG2 bG3
    refine (heldO_any J.length cg vg p q r 1 _ (by omega) (by omega) (by omega) EM.out).mono ?_
    rintro e w18 ⟨rfl, hb⟩
    replace BA := c4_next BA hb LA
    replace BB := c4_next BB hb LB
    replace BW := c4_next BW hb LW
    replace BG := c4_next BG hb LG
    replace LA := lt_next LA hb
    replace LB := lt_next LB hb
    replace LW := lt_next LW hb
    replace LG := lt_next LG hb
    replace HB := bel_next HB hb
    replace EW := own_hnext EW hb
    replace EM := mkrow_next EM hb
    clear hb
    have RA : Hid (SibRow w18 ao l) := row_at RA0 HB
    have RB : Hid (SibRow w18 bo l2) := row_at RB0 HB
    go_upto_region 31 with fail
    go_cut [15, 16] from 17 (fun s15 s16 wc => ∃ (gb : Nat) (vo : Option Addr) (vc : Nat), s15 = .pointer (some ⟨gb, 0, none⟩) ∧ s16 = .int .i64 code ∧ Cells4 wc gb (.slice vo J.length vc) p q r ∧ gb < wc.heap.size ∧ w18.heap.size ≤ gb ∧ wc.ownsRow 0 53 4 (.slice vo J.length vc) J.length (flat J) ∧ Below w18.heap.size w18 wc)
    case first =>
      refine wp_region_held_drew (S := (fun w' => (w'.cell? ⟨w.heap.size, 0, none⟩ = some (Value.slice ao l.length cap) ∧ w'.cell? ⟨w.heap.size, 1, none⟩ = some (.int .i64 a) ∧ w'.cell? ⟨w.heap.size, 2, none⟩ = some (.int .i64 b) ∧ w'.cell? ⟨w.heap.size, 3, none⟩ = some (.int .i64 c)) ∧ (w'.cell? ⟨w.heap.size + 1, 0, none⟩ = some (Value.slice bo l2.length cp) ∧ w'.cell? ⟨w.heap.size + 1, 1, none⟩ = some (.int .i64 x) ∧ w'.cell? ⟨w.heap.size + 1, 2, none⟩ = some (.int .i64 y) ∧ w'.cell? ⟨w.heap.size + 1, 3, none⟩ = some (.int .i64 z)) ∧ (w.heap.size < w'.heap.size) ∧ (w.heap.size + 1 < w'.heap.size) ∧ SibRow w' (ao) l ∧ SibRow w' (bo) l2 ∧ Below w18.heap.size w18 w' ∧ Below w.heap.size w w')) (by kernel_rfl) ?_ (fun hHeld => ?_)
      · (try dsimp only)
        exact ⟨BA.out, BB.out, LA.out, LB.out, RA.out, RB.out, bel_drew _, (bel_next HB (bel_drew _)).out⟩
      refine wpAnyH_take (i := 0) (v := ?_) rfl (by kernel_rfl) (by kernel_rfl) (by kernel_rfl) (fun _ _ _ h => h) (Or.inl ⟨by rfl, ?_⟩) (by assumption) ?_
      rotate_left
      · intro w' hSw
        (try dsimp only at hSw)
        go_simp
        all_goals (try with_reducible rfl)
      (try simp only [Act.put, List.getElem_toArray, List.getElem_cons_zero, List.getElem_cons_succ, List.setIfInBounds_toArray, List.set_cons_zero, List.set_cons_succ])
      refine wpAnyH_take (i := 2) (v := ?_) rfl (by kernel_rfl) (by kernel_rfl) (by kernel_rfl) (fun _ _ _ h => h) (Or.inl ⟨by rfl, ?_⟩) (by assumption) ?_
      rotate_left
      · intro w' hSw
        (try dsimp only at hSw)
        go_simp
        all_goals (try with_reducible rfl)
      (try simp only [Act.put, List.getElem_toArray, List.getElem_cons_zero, List.getElem_cons_succ, List.setIfInBounds_toArray, List.set_cons_zero, List.set_cons_succ])
      refine wpAnyH_ready (rs := [1, 8]) (by kernel_rfl) (by simp) ?_
      refine AllReadyH.cons rfl (fun K hK => ?_) (AllReadyH.cons rfl (fun K hK => ?_) AllReadyH.nil)
      · (try simp only [Act.put, List.getElem_toArray, List.getElem_cons_zero, List.getElem_cons_succ, List.setIfInBounds_toArray, List.set_cons_zero, List.set_cons_succ])
        go_simp
        go_at_call 8
        refine (toObj_any cap ao l a b c _ hm hHeld.2.2.2.2.1).mono ?_
        rintro e wb1 ⟨g1, rfl, hb, hg, hG, hT, hS⟩
        have R1 := row_of_at hS
        refine hK.out _ _ ?_ (fun hHeld' => ?_)
        · (try dsimp only)
          exact ⟨c4_next hHeld.1 hb hHeld.2.2.1, c4_next hHeld.2.1 hb hHeld.2.2.2.1, lt_next hHeld.2.2.1 hb, lt_next hHeld.2.2.2.1 hb, row_next hHeld.2.2.2.2.1 hb, row_next hHeld.2.2.2.2.2.1 hb, belW_next hHeld.2.2.2.2.2.2.1 hb, bel_next hHeld.2.2.2.2.2.2.2 hb⟩
        clear hK K
        clear hHeld
        have hHeld := hHeld'
        clear hHeld'
        have HSZ : Hid (w18.heap.size ≤ wb1.heap.size) := hHeld.2.2.2.2.2.2.1.size
        clear hb
        (try simp only [Act.put, List.getElem_toArray, List.getElem_cons_zero, List.getElem_cons_succ, List.setIfInBounds_toArray, List.set_cons_zero, List.set_cons_succ])
        refine wpAnyH_ready (rs := [3, 8]) (by kernel_rfl) (by simp) ?_
        refine AllReadyH.cons rfl (fun K hK => ?_) (AllReadyH.cons rfl (fun K hK => ?_) AllReadyH.nil)
        · (try simp only [Act.put, List.getElem_toArray, List.getElem_cons_zero, List.getElem_cons_succ, List.setIfInBounds_toArray, List.set_cons_zero, List.set_cons_succ])
          go_simp
          go_at_call 8
          refine (toObj_any cp bo l2 x y z _ hm2 hHeld.2.2.2.2.2.1).mono ?_
          rintro e wb2 ⟨g2, rfl, hb, hg, hG, hT, hS⟩
          have R2 := row_of_at hS
          replace R1 := row_next R1 hb
          refine hK.out _ _ ?_ (fun hHeld' => ?_)
          · (try dsimp only)
            exact ⟨c4_next hHeld.1 hb hHeld.2.2.1, c4_next hHeld.2.1 hb hHeld.2.2.2.1, lt_next hHeld.2.2.1 hb, lt_next hHeld.2.2.2.1 hb, row_next hHeld.2.2.2.2.1 hb, row_next hHeld.2.2.2.2.2.1 hb, belW_next hHeld.2.2.2.2.2.2.1 hb, bel_next hHeld.2.2.2.2.2.2.2 hb⟩
          clear hK K
          clear hHeld
          have hHeld := hHeld'
          clear hHeld'
          have HSZ : Hid (w18.heap.size ≤ wb2.heap.size) := hHeld.2.2.2.2.2.2.1.size
          clear hb
          (try simp only [Act.put, List.getElem_toArray, List.getElem_cons_zero, List.getElem_cons_succ, List.setIfInBounds_toArray, List.set_cons_zero, List.set_cons_succ])
          refine wpAnyH_ready (rs := [4, 8]) (by kernel_rfl) (by simp) ?_
          refine AllReadyH.cons rfl (fun K hK => ?_) (AllReadyH.cons rfl (fun K hK => ?_) AllReadyH.nil)
          · (try simp only [Act.put, List.getElem_toArray, List.getElem_cons_zero, List.getElem_cons_succ, List.setIfInBounds_toArray, List.set_cons_zero, List.set_cons_succ])
            go_simp
            go_at_call 9
            refine (join_wrap (implJoin_any l.length l2.length _ _ l l2 a b c x y z k0 k1 hO hP J p q r code hJ _ hm hm2 (Nat.le_refl _) R1.out R2.out)).mono ?_
            rintro e wb3 ⟨vo, vc, rfl, hb, OV, FV⟩
            refine hK.out _ _ ?_ (fun hHeld' => ?_)
            · (try dsimp only)
              exact ⟨c4_next hHeld.1 hb hHeld.2.2.1, c4_next hHeld.2.1 hb hHeld.2.2.2.1, lt_next hHeld.2.2.1 hb, lt_next hHeld.2.2.2.1 hb, row_next hHeld.2.2.2.2.1 hb, row_next hHeld.2.2.2.2.2.1 hb, belW_next hHeld.2.2.2.2.2.2.1 hb, bel_next hHeld.2.2.2.2.2.2.2 hb⟩
            clear hK K
            clear hHeld
            have hHeld := hHeld'
            clear hHeld'
            have HSZ : Hid (w18.heap.size ≤ wb3.heap.size) := hHeld.2.2.2.2.2.2.1.size
            clear hb
            (try simp only [Act.put, List.getElem_toArray, List.getElem_cons_zero, List.getElem_cons_succ, List.setIfInBounds_toArray, List.set_cons_zero, List.set_cons_succ])
            refine wpAnyH_take (i := 5) (v := ?_) rfl (by kernel_rfl) (by kernel_rfl) (by kernel_rfl) (fun _ _ _ h => h) (Or.inl ⟨by rfl, ?_⟩) (by assumption) ?_
            rotate_left
            · intro w' hSw
              (try dsimp only at hSw)
              go_simp
              all_goals (try with_reducible rfl)
            (try simp only [Act.put, List.getElem_toArray, List.getElem_cons_zero, List.getElem_cons_succ, List.setIfInBounds_toArray, List.set_cons_zero, List.set_cons_succ])
            refine wpAnyH_take (i := 6) (v := ?_) rfl (by kernel_rfl) (by kernel_rfl) (by kernel_rfl) (fun _ _ _ h => h) (Or.inl ⟨by rfl, ?_⟩) (by assumption) ?_
            rotate_left
            · intro w' hSw
              (try dsimp only at hSw)
              go_simp
              all_goals (try with_reducible rfl)
            (try simp only [Act.put, List.getElem_toArray, List.getElem_cons_zero, List.getElem_cons_succ, List.setIfInBounds_toArray, List.set_cons_zero, List.set_cons_succ])
            refine wpAnyH_take (i := 7) (v := ?_) rfl (by kernel_rfl) (by kernel_rfl) (by kernel_rfl) (fun _ _ _ h => h) (Or.inl ⟨by rfl, ?_⟩) (by assumption) ?_
            rotate_left
            · intro w' hSw
              (try dsimp only at hSw)
              go_simp
              all_goals (try with_reducible rfl)
            (try simp only [Act.put, List.getElem_toArray, List.getElem_cons_zero, List.getElem_cons_succ, List.setIfInBounds_toArray, List.set_cons_zero, List.set_cons_succ])
            refine wpAnyH_ready (rs := [8]) (by kernel_rfl) (by simp) ?_
            refine AllReadyH.cons rfl (fun K hK => ?_) AllReadyH.nil
            (try simp only [Act.put, List.getElem_toArray, List.getElem_cons_zero, List.getElem_cons_succ, List.setIfInBounds_toArray, List.set_cons_zero, List.set_cons_succ])
            go_simp
            (try simp only [])
            have hb := bel_alloc (wb3) (.cells #[.slice none 0 0, .int .i64 0, .int .i64 0, .int .i64 0] 30)
            replace OV := own_hnext OV hb
            refine hK.out _ _ ?_ (fun hHeld' => ?_)
            · (try dsimp only)
              exact ⟨c4_next hHeld.1 hb hHeld.2.2.1, c4_next hHeld.2.1 hb hHeld.2.2.2.1, lt_next hHeld.2.2.1 hb, lt_next hHeld.2.2.2.1 hb, row_next hHeld.2.2.2.2.1 hb, row_next hHeld.2.2.2.2.2.1 hb, belW_next hHeld.2.2.2.2.2.2.1 hb, bel_next hHeld.2.2.2.2.2.2.2 hb⟩
            clear hK K
            clear hHeld
            have hHeld := hHeld'
            clear hHeld'
            have TH : Hid (There (wb3.alloc (.cells #[.slice none 0 0, .int .i64 0, .int .i64 0, .int .i64 0] 30)) (wb3.heap.size) 4) := there_new
            have LG : Hid (wb3.heap.size < (wb3.alloc (.cells #[.slice none 0 0, .int .i64 0, .int .i64 0, .int .i64 0] 30)).heap.size) := lt_new (W := wb3)
            have NV : Hid ((Value.slice vo J.length vc).ownBlock ≠ some (wb3.heap.size)) := fun e => Nat.lt_irrefl _ (FV.out _ e).2
            have GE : Hid (w18.heap.size ≤ wb3.heap.size) := (show w18.heap.size ≤ wb3.heap.size from by first | exact Nat.le_refl _ | exact HSZ.out)
            clear hb
            generalize wb3.alloc (.cells #[.slice none 0 0, .int .i64 0, .int .i64 0, .int .i64 0] 30) = WA at *
            generalize wb3.heap.size = gz at *
            (try simp only [Act.put, List.getElem_toArray, List.getElem_cons_zero, List.getElem_cons_succ, List.setIfInBounds_toArray, List.set_cons_zero, List.set_cons_succ])
            obtain ⟨t0, T0⟩ := Option.isSome_iff_exists.1 (TH.out 0 (by omega)).1
            have Z0 := (TH.out 0 (by omega)).2
            obtain ⟨t1, T1⟩ := Option.isSome_iff_exists.1 (TH.out 1 (by omega)).1
            have Z1 := (TH.out 1 (by omega)).2
            obtain ⟨t2, T2⟩ := Option.isSome_iff_exists.1 (TH.out 2 (by omega)).1
            have Z2 := (TH.out 2 (by omega)).2
            obtain ⟨t3, T3⟩ := Option.isSome_iff_exists.1 (TH.out 3 (by omega)).1
            have Z3 := (TH.out 3 (by omega)).2
            refine wpAnyH_ready (rs := [9]) (by kernel_rfl) (by simp) ?_
            refine AllReadyH.cons rfl (fun K hK => ?_) AllReadyH.nil
            (try simp only [Act.put, List.getElem_toArray, List.getElem_cons_zero, List.getElem_cons_succ, List.setIfInBounds_toArray, List.set_cons_zero, List.set_cons_succ])
            go_simp
            (try simp only [])
            have GZ := GE.out
            have HW := hHeld.2.2.2.2.2.2.1
            refine hK.out _ _ ?_ (fun hHeld' => ?_)
            · (try dsimp only)
              exact ⟨cells_set4 hHeld.1 (by have := LA.out; omega), cells_set4 hHeld.2.1 (by have := LB.out; omega), (by simpa [World.setCell] using hHeld.2.2.1), (by simpa [World.setCell] using hHeld.2.2.2.1), (row_at RA (below_set4 HW GZ)), (row_at RB (below_set4 HW GZ)), below_set4 HW GZ, below_set4 hHeld.2.2.2.2.2.2.2 (Nat.le_trans HB.out.size GZ)⟩
            clear hK K hHeld
            have hHeld := hHeld'
            clear hHeld'
            (try simp only [Act.put, List.getElem_toArray, List.getElem_cons_zero, List.getElem_cons_succ, List.setIfInBounds_toArray, List.set_cons_zero, List.set_cons_succ])
            refine wpAnyH_take (i := 10) (v := ?_) rfl (by kernel_rfl) (by kernel_rfl) (by kernel_rfl) (fun _ _ _ h => h) (Or.inl ⟨by rfl, ?_⟩) (by assumption) ?_
            rotate_left
            · intro w' hSw
              (try dsimp only at hSw)
              go_simp
              all_goals (try with_reducible rfl)
            (try simp only [Act.put, List.getElem_toArray, List.getElem_cons_zero, List.getElem_cons_succ, List.setIfInBounds_toArray, List.set_cons_zero, List.set_cons_succ])
            refine wpAnyH_done (by kernel_rfl) ?_ _
            have CC := set4_cells (v := .slice vo J.length vc) (p := p) (q := q) (r := r) TH.out
            have C9 : Hid _ := CC
            have O9 : Hid _ := own_set4 (v0 := .slice vo J.length vc) (v1 := .int .i64 p) (v2 := .int .i64 q) (v3 := .int .i64 r) OV.out NV.out
            have B9 : Hid _ := below_set4 (v0 := .slice vo J.length vc) (v1 := .int .i64 p) (v2 := .int .i64 q) (v3 := .int .i64 r) HW GZ
            clear CC T0 T1 T2 T3 Z0 Z1 Z2 Z3 hHeld
            go_wp2
            go_meet
            case rel => exact ⟨gz, vo, vc, rfl, rfl, C9.out, by simpa [World.setCell] using LG.out, GZ, O9.out, B9.out⟩
          · (try simp only [Act.put, List.getElem_toArray, List.getElem_cons_zero, List.getElem_cons_succ, List.setIfInBounds_toArray, List.set_cons_zero, List.set_cons_succ])
            go_simp
            (try simp only [])
            have hb := bel_alloc (wb2) (.cells #[.slice none 0 0, .int .i64 0, .int .i64 0, .int .i64 0] 30)
            replace R1 := row_next R1 hb
            replace R2 := row_next R2 hb
            refine hK.out _ _ ?_ (fun hHeld' => ?_)
            · (try dsimp only)
              exact ⟨c4_next hHeld.1 hb hHeld.2.2.1, c4_next hHeld.2.1 hb hHeld.2.2.2.1, lt_next hHeld.2.2.1 hb, lt_next hHeld.2.2.2.1 hb, row_next hHeld.2.2.2.2.1 hb, row_next hHeld.2.2.2.2.2.1 hb, belW_next hHeld.2.2.2.2.2.2.1 hb, bel_next hHeld.2.2.2.2.2.2.2 hb⟩
            clear hK K
            clear hHeld
            have hHeld := hHeld'
            clear hHeld'
            have TH : Hid (There (wb2.alloc (.cells #[.slice none 0 0, .int .i64 0, .int .i64 0, .int .i64 0] 30)) (wb2.heap.size) 4) := there_new
            have LG : Hid (wb2.heap.size < (wb2.alloc (.cells #[.slice none 0 0, .int .i64 0, .int .i64 0, .int .i64 0] 30)).heap.size) := lt_new (W := wb2)
            have GE : Hid (w18.heap.size ≤ wb2.heap.size) := (show w18.heap.size ≤ wb2.heap.size from by first | exact Nat.le_refl _ | exact HSZ.out)
            clear hb
            generalize wb2.alloc (.cells #[.slice none 0 0, .int .i64 0, .int .i64 0, .int .i64 0] 30) = WA at *
            generalize wb2.heap.size = gz at *
            (try simp only [Act.put, List.getElem_toArray, List.getElem_cons_zero, List.getElem_cons_succ, List.setIfInBounds_toArray, List.set_cons_zero, List.set_cons_succ])
            refine wpAnyH_ready (rs := [4]) (by kernel_rfl) (by simp) ?_
            refine AllReadyH.cons rfl (fun K hK => ?_) AllReadyH.nil
            (try simp only [Act.put, List.getElem_toArray, List.getElem_cons_zero, List.getElem_cons_succ, List.setIfInBounds_toArray, List.set_cons_zero, List.set_cons_succ])
            go_simp
            go_at_call 9
            refine (join_wrap (implJoin_any l.length l2.length _ _ l l2 a b c x y z k0 k1 hO hP J p q r code hJ _ hm hm2 (Nat.le_refl _) R1.out R2.out)).mono ?_
            rintro e wb3 ⟨vo, vc, rfl, hb, OV, FV⟩
            have NV : Hid ((Value.slice vo J.length vc).ownBlock ≠ some gz) := fun e => by
              have h1 := (FV.out _ e).1
              have h2 := LG.out
              omega
            replace TH := th_next TH hb LG
            replace LG := lt_next LG hb
            refine hK.out _ _ ?_ (fun hHeld' => ?_)
            · (try dsimp only)
              exact ⟨c4_next hHeld.1 hb hHeld.2.2.1, c4_next hHeld.2.1 hb hHeld.2.2.2.1, lt_next hHeld.2.2.1 hb, lt_next hHeld.2.2.2.1 hb, row_next hHeld.2.2.2.2.1 hb, row_next hHeld.2.2.2.2.2.1 hb, belW_next hHeld.2.2.2.2.2.2.1 hb, bel_next hHeld.2.2.2.2.2.2.2 hb⟩
            clear hK K
            clear hHeld
            have hHeld := hHeld'
            clear hHeld'
            have HSZ : Hid (w18.heap.size ≤ wb3.heap.size) := hHeld.2.2.2.2.2.2.1.size
            clear hb
            (try simp only [Act.put, List.getElem_toArray, List.getElem_cons_zero, List.getElem_cons_succ, List.setIfInBounds_toArray, List.set_cons_zero, List.set_cons_succ])
            refine wpAnyH_take (i := 5) (v := ?_) rfl (by kernel_rfl) (by kernel_rfl) (by kernel_rfl) (fun _ _ _ h => h) (Or.inl ⟨by rfl, ?_⟩) (by assumption) ?_
            rotate_left
            · intro w' hSw
              (try dsimp only at hSw)
              go_simp
              all_goals (try with_reducible rfl)
            (try simp only [Act.put, List.getElem_toArray, List.getElem_cons_zero, List.getElem_cons_succ, List.setIfInBounds_toArray, List.set_cons_zero, List.set_cons_succ])
            refine wpAnyH_take (i := 6) (v := ?_) rfl (by kernel_rfl) (by kernel_rfl) (by kernel_rfl) (fun _ _ _ h => h) (Or.inl ⟨by rfl, ?_⟩) (by assumption) ?_
            rotate_left
            · intro w' hSw
              (try dsimp only at hSw)
              go_simp
              all_goals (try with_reducible rfl)
            (try simp only [Act.put, List.getElem_toArray, List.getElem_cons_zero, List.getElem_cons_succ, List.setIfInBounds_toArray, List.set_cons_zero, List.set_cons_succ])
            refine wpAnyH_take (i := 7) (v := ?_) rfl (by kernel_rfl) (by kernel_rfl) (by kernel_rfl) (fun _ _ _ h => h) (Or.inl ⟨by rfl, ?_⟩) (by assumption) ?_
            rotate_left
            · intro w' hSw
              (try dsimp only at hSw)
              go_simp
              all_goals (try with_reducible rfl)
            (try simp only [Act.put, List.getElem_toArray, List.getElem_cons_zero, List.getElem_cons_succ, List.setIfInBounds_toArray, List.set_cons_zero, List.set_cons_succ])
            obtain ⟨t0, T0⟩ := Option.isSome_iff_exists.1 (TH.out 0 (by omega)).1
            have Z0 := (TH.out 0 (by omega)).2
            obtain ⟨t1, T1⟩ := Option.isSome_iff_exists.1 (TH.out 1 (by omega)).1
            have Z1 := (TH.out 1 (by omega)).2
            obtain ⟨t2, T2⟩ := Option.isSome_iff_exists.1 (TH.out 2 (by omega)).1
            have Z2 := (TH.out 2 (by omega)).2
            obtain ⟨t3, T3⟩ := Option.isSome_iff_exists.1 (TH.out 3 (by omega)).1
            have Z3 := (TH.out 3 (by omega)).2
            refine wpAnyH_ready (rs := [9]) (by kernel_rfl) (by simp) ?_
            refine AllReadyH.cons rfl (fun K hK => ?_) AllReadyH.nil
            (try simp only [Act.put, List.getElem_toArray, List.getElem_cons_zero, List.getElem_cons_succ, List.setIfInBounds_toArray, List.set_cons_zero, List.set_cons_succ])
            go_simp
            (try simp only [])
            have GZ := GE.out
            have HW := hHeld.2.2.2.2.2.2.1
            refine hK.out _ _ ?_ (fun hHeld' => ?_)
            · (try dsimp only)
              exact ⟨cells_set4 hHeld.1 (by have := LA.out; omega), cells_set4 hHeld.2.1 (by have := LB.out; omega), (by simpa [World.setCell] using hHeld.2.2.1), (by simpa [World.setCell] using hHeld.2.2.2.1), (row_at RA (below_set4 HW GZ)), (row_at RB (below_set4 HW GZ)), below_set4 HW GZ, below_set4 hHeld.2.2.2.2.2.2.2 (Nat.le_trans HB.out.size GZ)⟩
            clear hK K hHeld
            have hHeld := hHeld'
            clear hHeld'
            (try simp only [Act.put, List.getElem_toArray, List.getElem_cons_zero, List.getElem_cons_succ, List.setIfInBounds_toArray, List.set_cons_zero, List.set_cons_succ])
            refine wpAnyH_take (i := 10) (v := ?_) rfl (by kernel_rfl) (by kernel_rfl) (by kernel_rfl) (fun _ _ _ h => h) (Or.inl ⟨by rfl, ?_⟩) (by assumption) ?_
            rotate_left
            · intro w' hSw
              (try dsimp only at hSw)
              go_simp
              all_goals (try with_reducible rfl)
            (try simp only [Act.put, List.getElem_toArray, List.getElem_cons_zero, List.getElem_cons_succ, List.setIfInBounds_toArray, List.set_cons_zero, List.set_cons_succ])
            refine wpAnyH_done (by kernel_rfl) ?_ _
            have CC := set4_cells (v := .slice vo J.length vc) (p := p) (q := q) (r := r) TH.out
            have C9 : Hid _ := CC
            have O9 : Hid _ := own_set4 (v0 := .slice vo J.length vc) (v1 := .int .i64 p) (v2 := .int .i64 q) (v3 := .int .i64 r) OV.out NV.out
            have B9 : Hid _ := below_set4 (v0 := .slice vo J.length vc) (v1 := .int .i64 p) (v2 := .int .i64 q) (v3 := .int .i64 r) HW GZ
            clear CC T0 T1 T2 T3 Z0 Z1 Z2 Z3 hHeld
            go_wp2
            go_meet
            case rel => exact ⟨gz, vo, vc, rfl, rfl, C9.out, by simpa [World.setCell] using LG.out, GZ, O9.out, B9.out⟩
        · (try simp only [Act.put, List.getElem_toArray, List.getElem_cons_zero, List.getElem_cons_succ, List.setIfInBounds_toArray, List.set_cons_zero, List.set_cons_succ])
          go_simp
          (try simp only [])
          have hb := bel_alloc (wb1) (.cells #[.slice none 0 0, .int .i64 0, .int .i64 0, .int .i64 0] 30)
          replace R1 := row_next R1 hb
          refine hK.out _ _ ?_ (fun hHeld' => ?_)
          · (try dsimp only)
            exact ⟨c4_next hHeld.1 hb hHeld.2.2.1, c4_next hHeld.2.1 hb hHeld.2.2.2.1, lt_next hHeld.2.2.1 hb, lt_next hHeld.2.2.2.1 hb, row_next hHeld.2.2.2.2.1 hb, row_next hHeld.2.2.2.2.2.1 hb, belW_next hHeld.2.2.2.2.2.2.1 hb, bel_next hHeld.2.2.2.2.2.2.2 hb⟩
          clear hK K
          clear hHeld
          have hHeld := hHeld'
          clear hHeld'
          have TH : Hid (There (wb1.alloc (.cells #[.slice none 0 0, .int .i64 0, .int .i64 0, .int .i64 0] 30)) (wb1.heap.size) 4) := there_new
          have LG : Hid (wb1.heap.size < (wb1.alloc (.cells #[.slice none 0 0, .int .i64 0, .int .i64 0, .int .i64 0] 30)).heap.size) := lt_new (W := wb1)
          have GE : Hid (w18.heap.size ≤ wb1.heap.size) := (show w18.heap.size ≤ wb1.heap.size from by first | exact Nat.le_refl _ | exact HSZ.out)
          clear hb
          generalize wb1.alloc (.cells #[.slice none 0 0, .int .i64 0, .int .i64 0, .int .i64 0] 30) = WA at *
          generalize wb1.heap.size = gz at *
          (try simp only [Act.put, List.getElem_toArray, List.getElem_cons_zero, List.getElem_cons_succ, List.setIfInBounds_toArray, List.set_cons_zero, List.set_cons_succ])
          refine wpAnyH_ready (rs := [3]) (by kernel_rfl) (by simp) ?_
          refine AllReadyH.cons rfl (fun K hK => ?_) AllReadyH.nil
          (try simp only [Act.put, List.getElem_toArray, List.getElem_cons_zero, List.getElem_cons_succ, List.setIfInBounds_toArray, List.set_cons_zero, List.set_cons_succ])
          go_simp
          go_at_call 8
          refine (toObj_any cp bo l2 x y z _ hm2 hHeld.2.2.2.2.2.1).mono ?_
          rintro e wb2 ⟨g2, rfl, hb, hg, hG, hT, hS⟩
          have R2 := row_of_at hS
          replace R1 := row_next R1 hb
          replace TH := th_next TH hb LG
          replace LG := lt_next LG hb
          refine hK.out _ _ ?_ (fun hHeld' => ?_)
          · (try dsimp only)
            exact ⟨c4_next hHeld.1 hb hHeld.2.2.1, c4_next hHeld.2.1 hb hHeld.2.2.2.1, lt_next hHeld.2.2.1 hb, lt_next hHeld.2.2.2.1 hb, row_next hHeld.2.2.2.2.1 hb, row_next hHeld.2.2.2.2.2.1 hb, belW_next hHeld.2.2.2.2.2.2.1 hb, bel_next hHeld.2.2.2.2.2.2.2 hb⟩
          clear hK K
          clear hHeld
          have hHeld := hHeld'
          clear hHeld'
          have HSZ : Hid (w18.heap.size ≤ wb2.heap.size) := hHeld.2.2.2.2.2.2.1.size
          clear hb
          (try simp only [Act.put, List.getElem_toArray, List.getElem_cons_zero, List.getElem_cons_succ, List.setIfInBounds_toArray, List.set_cons_zero, List.set_cons_succ])
          refine wpAnyH_ready (rs := [4]) (by kernel_rfl) (by simp) ?_
          refine AllReadyH.cons rfl (fun K hK => ?_) AllReadyH.nil
          (try simp only [Act.put, List.getElem_toArray, List.getElem_cons_zero, List.getElem_cons_succ, List.setIfInBounds_toArray, List.set_cons_zero, List.set_cons_succ])
          go_simp
          go_at_call 9
          refine (join_wrap (implJoin_any l.length l2.length _ _ l l2 a b c x y z k0 k1 hO hP J p q r code hJ _ hm hm2 (Nat.le_refl _) R1.out R2.out)).mono ?_
          rintro e wb3 ⟨vo, vc, rfl, hb, OV, FV⟩
          have NV : Hid ((Value.slice vo J.length vc).ownBlock ≠ some gz) := fun e => by
            have h1 := (FV.out _ e).1
            have h2 := LG.out
            omega
          replace TH := th_next TH hb LG
          replace LG := lt_next LG hb
          refine hK.out _ _ ?_ (fun hHeld' => ?_)
          · (try dsimp only)
            exact ⟨c4_next hHeld.1 hb hHeld.2.2.1, c4_next hHeld.2.1 hb hHeld.2.2.2.1, lt_next hHeld.2.2.1 hb, lt_next hHeld.2.2.2.1 hb, row_next hHeld.2.2.2.2.1 hb, row_next hHeld.2.2.2.2.2.1 hb, belW_next hHeld.2.2.2.2.2.2.1 hb, bel_next hHeld.2.2.2.2.2.2.2 hb⟩
          clear hK K
          clear hHeld
          have hHeld := hHeld'
          clear hHeld'
          have HSZ : Hid (w18.heap.size ≤ wb3.heap.size) := hHeld.2.2.2.2.2.2.1.size
          clear hb
          (try simp only [Act.put, List.getElem_toArray, List.getElem_cons_zero, List.getElem_cons_succ, List.setIfInBounds_toArray, List.set_cons_zero, List.set_cons_succ])
          refine wpAnyH_take (i := 5) (v := ?_) rfl (by kernel_rfl) (by kernel_rfl) (by kernel_rfl) (fun _ _ _ h => h) (Or.inl ⟨by rfl, ?_⟩) (by assumption) ?_
          rotate_left
          · intro w' hSw
            (try dsimp only at hSw)
            go_simp
            all_goals (try with_reducible rfl)
          (try simp only [Act.put, List.getElem_toArray, List.getElem_cons_zero, List.getElem_cons_succ, List.setIfInBounds_toArray, List.set_cons_zero, List.set_cons_succ])
          refine wpAnyH_take (i := 6) (v := ?_) rfl (by kernel_rfl) (by kernel_rfl) (by kernel_rfl) (fun _ _ _ h => h) (Or.inl ⟨by rfl, ?_⟩) (by assumption) ?_
          rotate_left
          · intro w' hSw
            (try dsimp only at hSw)
            go_simp
            all_goals (try with_reducible rfl)
          (try simp only [Act.put, List.getElem_toArray, List.getElem_cons_zero, List.getElem_cons_succ, List.setIfInBounds_toArray, List.set_cons_zero, List.set_cons_succ])
          refine wpAnyH_take (i := 7) (v := ?_) rfl (by kernel_rfl) (by kernel_rfl) (by kernel_rfl) (fun _ _ _ h => h) (Or.inl ⟨by rfl, ?_⟩) (by assumption) ?_
          rotate_left
          · intro w' hSw
            (try dsimp only at hSw)
            go_simp
            all_goals (try with_reducible rfl)
          (try simp only [Act.put, List.getElem_toArray, List.getElem_cons_zero, List.getElem_cons_succ, List.setIfInBounds_toArray, List.set_cons_zero, List.set_cons_succ])
          obtain ⟨t0, T0⟩ := Option.isSome_iff_exists.1 (TH.out 0 (by omega)).1
          have Z0 := (TH.out 0 (by omega)).2
          obtain ⟨t1, T1⟩ := Option.isSome_iff_exists.1 (TH.out 1 (by omega)).1
          have Z1 := (TH.out 1 (by omega)).2
          obtain ⟨t2, T2⟩ := Option.isSome_iff_exists.1 (TH.out 2 (by omega)).1
          have Z2 := (TH.out 2 (by omega)).2
          obtain ⟨t3, T3⟩ := Option.isSome_iff_exists.1 (TH.out 3 (by omega)).1
          have Z3 := (TH.out 3 (by omega)).2
          refine wpAnyH_ready (rs := [9]) (by kernel_rfl) (by simp) ?_
          refine AllReadyH.cons rfl (fun K hK => ?_) AllReadyH.nil
          (try simp only [Act.put, List.getElem_toArray, List.getElem_cons_zero, List.getElem_cons_succ, List.setIfInBounds_toArray, List.set_cons_zero, List.set_cons_succ])
          go_simp
          (try simp only [])
          have GZ := GE.out
          have HW := hHeld.2.2.2.2.2.2.1
          refine hK.out _ _ ?_ (fun hHeld' => ?_)
          · (try dsimp only)
            exact ⟨cells_set4 hHeld.1 (by have := LA.out; omega), cells_set4 hHeld.2.1 (by have := LB.out; omega), (by simpa [World.setCell] using hHeld.2.2.1), (by simpa [World.setCell] using hHeld.2.2.2.1), (row_at RA (below_set4 HW GZ)), (row_at RB (below_set4 HW GZ)), below_set4 HW GZ, below_set4 hHeld.2.2.2.2.2.2.2 (Nat.le_trans HB.out.size GZ)⟩
          clear hK K hHeld
          have hHeld := hHeld'
          clear hHeld'
          (try simp only [Act.put, List.getElem_toArray, List.getElem_cons_zero, List.getElem_cons_succ, List.setIfInBounds_toArray, List.set_cons_zero, List.set_cons_succ])
          refine wpAnyH_take (i := 10) (v := ?_) rfl (by kernel_rfl) (by kernel_rfl) (by kernel_rfl) (fun _ _ _ h => h) (Or.inl ⟨by rfl, ?_⟩) (by assumption) ?_
          rotate_left
          · intro w' hSw
            (try dsimp only at hSw)
            go_simp
            all_goals (try with_reducible rfl)
          (try simp only [Act.put, List.getElem_toArray, List.getElem_cons_zero, List.getElem_cons_succ, List.setIfInBounds_toArray, List.set_cons_zero, List.set_cons_succ])
          refine wpAnyH_done (by kernel_rfl) ?_ _
          have CC := set4_cells (v := .slice vo J.length vc) (p := p) (q := q) (r := r) TH.out
          have C9 : Hid _ := CC
          have O9 : Hid _ := own_set4 (v0 := .slice vo J.length vc) (v1 := .int .i64 p) (v2 := .int .i64 q) (v3 := .int .i64 r) OV.out NV.out
          have B9 : Hid _ := below_set4 (v0 := .slice vo J.length vc) (v1 := .int .i64 p) (v2 := .int .i64 q) (v3 := .int .i64 r) HW GZ
          clear CC T0 T1 T2 T3 Z0 Z1 Z2 Z3 hHeld
          go_wp2
          go_meet
          case rel => exact ⟨gz, vo, vc, rfl, rfl, C9.out, by simpa [World.setCell] using LG.out, GZ, O9.out, B9.out⟩
      · (try simp only [Act.put, List.getElem_toArray, List.getElem_cons_zero, List.getElem_cons_succ, List.setIfInBounds_toArray, List.set_cons_zero, List.set_cons_succ])
        go_simp
        (try simp only [])
        have hb := bel_alloc (w18.drew) (.cells #[.slice none 0 0, .int .i64 0, .int .i64 0, .int .i64 0] 30)
        refine hK.out _ _ ?_ (fun hHeld' => ?_)
        · (try dsimp only)
          exact ⟨c4_next hHeld.1 hb hHeld.2.2.1, c4_next hHeld.2.1 hb hHeld.2.2.2.1, lt_next hHeld.2.2.1 hb, lt_next hHeld.2.2.2.1 hb, row_next hHeld.2.2.2.2.1 hb, row_next hHeld.2.2.2.2.2.1 hb, belW_next hHeld.2.2.2.2.2.2.1 hb, bel_next hHeld.2.2.2.2.2.2.2 hb⟩
        clear hK K
        clear hHeld
        have hHeld := hHeld'
        clear hHeld'
        have TH : Hid (There ((w18.alloc (.cells #[.slice none 0 0, .int .i64 0, .int .i64 0, .int .i64 0] 30)).drew) (w18.heap.size) 4) := there_new
        have LG : Hid (w18.heap.size < ((w18.alloc (.cells #[.slice none 0 0, .int .i64 0, .int .i64 0, .int .i64 0] 30)).drew).heap.size) := lt_new (W := w18)
        have GE : Hid (w18.heap.size ≤ w18.heap.size) := (show w18.heap.size ≤ w18.heap.size from by first | exact Nat.le_refl _ | exact HSZ.out)
        clear hb
        generalize (w18.alloc (.cells #[.slice none 0 0, .int .i64 0, .int .i64 0, .int .i64 0] 30)).drew = WA at *
        (try simp only [Act.put, List.getElem_toArray, List.getElem_cons_zero, List.getElem_cons_succ, List.setIfInBounds_toArray, List.set_cons_zero, List.set_cons_succ])
        refine wpAnyH_ready (rs := [1]) (by kernel_rfl) (by simp) ?_
        refine AllReadyH.cons rfl (fun K hK => ?_) AllReadyH.nil
        (try simp only [Act.put, List.getElem_toArray, List.getElem_cons_zero, List.getElem_cons_succ, List.setIfInBounds_toArray, List.set_cons_zero, List.set_cons_succ])
        go_simp
        go_at_call 8
        refine (toObj_any cap ao l a b c _ hm hHeld.2.2.2.2.1).mono ?_
        rintro e wb1 ⟨g1, rfl, hb, hg, hG, hT, hS⟩
        have R1 := row_of_at hS
        replace TH := th_next TH hb LG
        replace LG := lt_next LG hb
        refine hK.out _ _ ?_ (fun hHeld' => ?_)
        · (try dsimp only)
          exact ⟨c4_next hHeld.1 hb hHeld.2.2.1, c4_next hHeld.2.1 hb hHeld.2.2.2.1, lt_next hHeld.2.2.1 hb, lt_next hHeld.2.2.2.1 hb, row_next hHeld.2.2.2.2.1 hb, row_next hHeld.2.2.2.2.2.1 hb, belW_next hHeld.2.2.2.2.2.2.1 hb, bel_next hHeld.2.2.2.2.2.2.2 hb⟩
        clear hK K
        clear hHeld
        have hHeld := hHeld'
        clear hHeld'
        have HSZ : Hid (w18.heap.size ≤ wb1.heap.size) := hHeld.2.2.2.2.2.2.1.size
        clear hb
        (try simp only [Act.put, List.getElem_toArray, List.getElem_cons_zero, List.getElem_cons_succ, List.setIfInBounds_toArray, List.set_cons_zero, List.set_cons_succ])
        refine wpAnyH_ready (rs := [3]) (by kernel_rfl) (by simp) ?_
        refine AllReadyH.cons rfl (fun K hK => ?_) AllReadyH.nil
        (try simp only [Act.put, List.getElem_toArray, List.getElem_cons_zero, List.getElem_cons_succ, List.setIfInBounds_toArray, List.set_cons_zero, List.set_cons_succ])
        go_simp
        go_at_call 8
        refine (toObj_any cp bo l2 x y z _ hm2 hHeld.2.2.2.2.2.1).mono ?_
        rintro e wb2 ⟨g2, rfl, hb, hg, hG, hT, hS⟩
        have R2 := row_of_at hS
        replace R1 := row_next R1 hb
        replace TH := th_next TH hb LG
        replace LG := lt_next LG hb
        refine hK.out _ _ ?_ (fun hHeld' => ?_)
        · (try dsimp only)
          exact ⟨c4_next hHeld.1 hb hHeld.2.2.1, c4_next hHeld.2.1 hb hHeld.2.2.2.1, lt_next hHeld.2.2.1 hb, lt_next hHeld.2.2.2.1 hb, row_next hHeld.2.2.2.2.1 hb, row_next hHeld.2.2.2.2.2.1 hb, belW_next hHeld.2.2.2.2.2.2.1 hb, bel_next hHeld.2.2.2.2.2.2.2 hb⟩
        clear hK K
        clear hHeld
        have hHeld := hHeld'
        clear hHeld'
        have HSZ : Hid (w18.heap.size ≤ wb2.heap.size) := hHeld.2.2.2.2.2.2.1.size
        clear hb
        (try simp only [Act.put, List.getElem_toArray, List.getElem_cons_zero, List.getElem_cons_succ, List.setIfInBounds_toArray, List.set_cons_zero, List.set_cons_succ])
        refine wpAnyH_ready (rs := [4]) (by kernel_rfl) (by simp) ?_
        refine AllReadyH.cons rfl (fun K hK => ?_) AllReadyH.nil
        (try simp only [Act.put, List.getElem_toArray, List.getElem_cons_zero, List.getElem_cons_succ, List.setIfInBounds_toArray, List.set_cons_zero, List.set_cons_succ])
        go_simp
        go_at_call 9
        refine (join_wrap (implJoin_any l.length l2.length _ _ l l2 a b c x y z k0 k1 hO hP J p q r code hJ _ hm hm2 (Nat.le_refl _) R1.out R2.out)).mono ?_
        rintro e wb3 ⟨vo, vc, rfl, hb, OV, FV⟩
        have NV : Hid ((Value.slice vo J.length vc).ownBlock ≠ some w18.heap.size) := fun e => by
          have h1 := (FV.out _ e).1
          have h2 := LG.out
          omega
        replace TH := th_next TH hb LG
        replace LG := lt_next LG hb
        refine hK.out _ _ ?_ (fun hHeld' => ?_)
        · (try dsimp only)
          exact ⟨c4_next hHeld.1 hb hHeld.2.2.1, c4_next hHeld.2.1 hb hHeld.2.2.2.1, lt_next hHeld.2.2.1 hb, lt_next hHeld.2.2.2.1 hb, row_next hHeld.2.2.2.2.1 hb, row_next hHeld.2.2.2.2.2.1 hb, belW_next hHeld.2.2.2.2.2.2.1 hb, bel_next hHeld.2.2.2.2.2.2.2 hb⟩
        clear hK K
        clear hHeld
        have hHeld := hHeld'
        clear hHeld'
        have HSZ : Hid (w18.heap.size ≤ wb3.heap.size) := hHeld.2.2.2.2.2.2.1.size
        clear hb
        (try simp only [Act.put, List.getElem_toArray, List.getElem_cons_zero, List.getElem_cons_succ, List.setIfInBounds_toArray, List.set_cons_zero, List.set_cons_succ])
        refine wpAnyH_take (i := 5) (v := ?_) rfl (by kernel_rfl) (by kernel_rfl) (by kernel_rfl) (fun _ _ _ h => h) (Or.inl ⟨by rfl, ?_⟩) (by assumption) ?_
        rotate_left
        · intro w' hSw
          (try dsimp only at hSw)
          go_simp
          all_goals (try with_reducible rfl)
        (try simp only [Act.put, List.getElem_toArray, List.getElem_cons_zero, List.getElem_cons_succ, List.setIfInBounds_toArray, List.set_cons_zero, List.set_cons_succ])
        refine wpAnyH_take (i := 6) (v := ?_) rfl (by kernel_rfl) (by kernel_rfl) (by kernel_rfl) (fun _ _ _ h => h) (Or.inl ⟨by rfl, ?_⟩) (by assumption) ?_
        rotate_left
        · intro w' hSw
          (try dsimp only at hSw)
          go_simp
          all_goals (try with_reducible rfl)
        (try simp only [Act.put, List.getElem_toArray, List.getElem_cons_zero, List.getElem_cons_succ, List.setIfInBounds_toArray, List.set_cons_zero, List.set_cons_succ])
        refine wpAnyH_take (i := 7) (v := ?_) rfl (by kernel_rfl) (by kernel_rfl) (by kernel_rfl) (fun _ _ _ h => h) (Or.inl ⟨by rfl, ?_⟩) (by assumption) ?_
        rotate_left
        · intro w' hSw
          (try dsimp only at hSw)
          go_simp
          all_goals (try with_reducible rfl)
        (try simp only [Act.put, List.getElem_toArray, List.getElem_cons_zero, List.getElem_cons_succ, List.setIfInBounds_toArray, List.set_cons_zero, List.set_cons_succ])
        obtain ⟨t0, T0⟩ := Option.isSome_iff_exists.1 (TH.out 0 (by omega)).1
        have Z0 := (TH.out 0 (by omega)).2
        obtain ⟨t1, T1⟩ := Option.isSome_iff_exists.1 (TH.out 1 (by omega)).1
        have Z1 := (TH.out 1 (by omega)).2
        obtain ⟨t2, T2⟩ := Option.isSome_iff_exists.1 (TH.out 2 (by omega)).1
        have Z2 := (TH.out 2 (by omega)).2
        obtain ⟨t3, T3⟩ := Option.isSome_iff_exists.1 (TH.out 3 (by omega)).1
        have Z3 := (TH.out 3 (by omega)).2
        refine wpAnyH_ready (rs := [9]) (by kernel_rfl) (by simp) ?_
        refine AllReadyH.cons rfl (fun K hK => ?_) AllReadyH.nil
        (try simp only [Act.put, List.getElem_toArray, List.getElem_cons_zero, List.getElem_cons_succ, List.setIfInBounds_toArray, List.set_cons_zero, List.set_cons_succ])
        go_simp
        (try simp only [])
        have GZ := GE.out
        have HW := hHeld.2.2.2.2.2.2.1
        refine hK.out _ _ ?_ (fun hHeld' => ?_)
        · (try dsimp only)
          exact ⟨cells_set4 hHeld.1 (by have := LA.out; omega), cells_set4 hHeld.2.1 (by have := LB.out; omega), (by simpa [World.setCell] using hHeld.2.2.1), (by simpa [World.setCell] using hHeld.2.2.2.1), (row_at RA (below_set4 HW GZ)), (row_at RB (below_set4 HW GZ)), below_set4 HW GZ, below_set4 hHeld.2.2.2.2.2.2.2 (Nat.le_trans HB.out.size GZ)⟩
        clear hK K hHeld
        have hHeld := hHeld'
        clear hHeld'
        (try simp only [Act.put, List.getElem_toArray, List.getElem_cons_zero, List.getElem_cons_succ, List.setIfInBounds_toArray, List.set_cons_zero, List.set_cons_succ])
        refine wpAnyH_take (i := 10) (v := ?_) rfl (by kernel_rfl) (by kernel_rfl) (by kernel_rfl) (fun _ _ _ h => h) (Or.inl ⟨by rfl, ?_⟩) (by assumption) ?_
        rotate_left
        · intro w' hSw
          (try dsimp only at hSw)
          go_simp
          all_goals (try with_reducible rfl)
        (try simp only [Act.put, List.getElem_toArray, List.getElem_cons_zero, List.getElem_cons_succ, List.setIfInBounds_toArray, List.set_cons_zero, List.set_cons_succ])
        refine wpAnyH_done (by kernel_rfl) ?_ _
        have CC := set4_cells (v := .slice vo J.length vc) (p := p) (q := q) (r := r) TH.out
        have C9 : Hid _ := CC
        have O9 : Hid _ := own_set4 (v0 := .slice vo J.length vc) (v1 := .int .i64 p) (v2 := .int .i64 q) (v3 := .int .i64 r) OV.out NV.out
        have B9 : Hid _ := below_set4 (v0 := .slice vo J.length vc) (v1 := .int .i64 p) (v2 := .int .i64 q) (v3 := .int .i64 r) HW GZ
        clear CC T0 T1 T2 T3 Z0 Z1 Z2 Z3 hHeld
        go_wp2
        go_meet
        case rel => exact ⟨w18.heap.size, vo, vc, rfl, rfl, C9.out, by simpa [World.setCell] using LG.out, GZ, O9.out, B9.out⟩
    case rest =>
      obtain ⟨gh, vh, ch, rfl, rfl, hC, hLb, hge, hOb, hb⟩ := hcut
      replace BA := c4_next BA hb LA
      replace BB := c4_next BB hb LB
      replace BW := c4_next BW hb LW
      replace BG := c4_next BG hb LG
      replace LA := lt_next LA hb
      replace LB := lt_next LB hb
      replace LW := lt_next LW hb
      replace LG := lt_next LG hb
      replace RA := row_next RA hb
      replace RB := row_next RB hb
      replace HB := bel_next HB hb
      replace EW := own_hnext EW hb
      replace EM := mkrow_next EM hb
      clear RA RB
      obtain ⟨bh0, bh1, bh2, bh3⟩ := hC
      have EH : Hid (World.ownsRow _ 0 53 4 (.slice vh J.length ch) J.length (flat J)) := hOb
      clear hge hOb hLb hb
      obtain ⟨bW0, bW1, bW2, bW3⟩ := BW.out
      go_wp2_with fail
      clear bW0 bW1 bW2 bW3
      clear bh0 bh1 bh2 bh3
      refine (eqObj_same ch vc vh vo J p q r _ hJl (own_srow EH) (own_srow EW)).mono ?_
      rintro e w20 ⟨rfl, hb⟩
      replace BA := c4_next BA hb LA
      replace BB := c4_next BB hb LB
      replace BW := c4_next BW hb LW
      replace BG := c4_next BG hb LG
      replace LA := lt_next LA hb
      replace LB := lt_next LB hb
      replace LW := lt_next LW hb
      replace LG := lt_next LG hb
      replace HB := bel_next HB hb
      replace EW := own_hnext EW hb
      replace EM := mkrow_next EM hb
      clear hb EH
      obtain ⟨bG0, bG1, bG2, bG3⟩ := BG.out
      go_wp2_with fail
      clear bG0 bG1 bG2 bG3
      refine (heldO_any J.length cg vg p q r 1 _ (by omega) (by omega) (by omega) EM.out).mono ?_
      rintro e w21 ⟨rfl, hb⟩
      replace HB := bel_next HB hb
      clear hb EM EW BA BB BW BG LA LB LW LG
      go_wp2
      go_ret
      exact ⟨rfl, HB.out⟩

set_option maxHeartbeats 1000000 in
theorem law_join (cap cp : Nat) (ao bo : Option Addr) (l l2 : List Sib) (a b c x y z : Int) (w : World) (hl : l.length ≤ 9223372036854775807) (hr0 : SibRow w ao l) (hl2 : l2.length ≤ 9223372036854775807) (hs0 : SibRow w bo l2) :
    Calls Try.prog 3 #[.agg #[.slice ao l.length cap, .int .i64 a, .int .i64 b, .int .i64 c], .agg #[.slice bo l2.length cp, .int .i64 x, .int .i64 y, .int .i64 z]] w fun e w' => e = .returned (.bool true) ∧ Below w.heap.size w w' := by
  by_cases h : l.length + l2.length ≤ 1048576
  · exact law_join_small cap cp ao bo l l2 a b c x y z w h hr0 hs0
  · by_cases h1 : l.length ≤ 1048576
    · have hif : (if (l.length : Int) ≤ 1048576 then 1048576 - (l.length : Int) else -1) = 1048576 - (l.length : Int) := if_pos (by omega)
      have hng : ¬ 1048576 - (l.length : Int) < 0 := by omega
      have hif2 : (if (l2.length : Int) ≤ 1048576 - (l.length : Int) then 1048576 - (l.length : Int) - (l2.length : Int) else -1) = -1 := if_neg (by omega)
      have HB : Hid (Below w.heap.size w w) := Below.refl _ _
      have RA : Hid (SibRow w ao l) := hr0
      have RB : Hid (SibRow w bo l2) := hs0
      clear hr0 hs0
      go_enter Try.func3, Try.ntmps3
      go_wp2_with fail
      refine (szObj_any cap ao l a b c 1048576 _ (by omega) (by omega) (by omega)).mono ?_
      rintro e w1 ⟨rfl, hb⟩
      have BA := c4_next (c4_next box_new (bel_alloc _ _) lt_new) hb (lt_next lt_new (bel_alloc _ _))
      have LA := lt_next (lt_next lt_new (bel_alloc _ _)) hb
      have BB := c4_next box_new hb lt_new
      have LB := lt_next lt_new hb
      replace RA := row_next (row_next (row_next RA (bel_alloc _ _)) (bel_alloc _ _)) hb
      replace RB := row_next (row_next (row_next RB (bel_alloc _ _)) (bel_alloc _ _)) hb
      replace HB := bel_next (bel_next (bel_next HB (bel_alloc _ _)) (bel_alloc _ _)) hb
      simp only [World.size_alloc] at BB LB
      clear hb
      rw [hif]
      obtain ⟨bA0, bA1, bA2, bA3⟩ := BA.out
      obtain ⟨bB0, bB1, bB2, bB3⟩ := BB.out
      go_wp2_with fail
      clear bA0 bA1 bA2 bA3
      clear bB0 bB1 bB2 bB3
      refine (szObj_any cp bo l2 x y z _ _ (by omega) (by omega) (by omega)).mono ?_
      rintro e w2 ⟨rfl, hb⟩
      replace BA := c4_next BA hb LA
      replace BB := c4_next BB hb LB
      replace LA := lt_next LA hb
      replace LB := lt_next LB hb
      replace RA := row_next RA hb
      replace RB := row_next RB hb
      replace HB := bel_next HB hb
      clear hb
      rw [hif2]
      clear RA RB BA BB LA LB
      go_wp2
      go_ret
      exact ⟨rfl, HB.out⟩
    · have hif : (if (l.length : Int) ≤ 1048576 then 1048576 - (l.length : Int) else -1) = -1 := if_neg (by omega)
      clear hr0 hs0
      go_enter Try.func3, Try.ntmps3
      go_wp2_with fail
      refine (szObj_any cap ao l a b c 1048576 _ (by omega) (by omega) (by omega)).mono ?_
      rintro e w1 ⟨rfl, hb⟩
      rw [hif]
      have HB : Hid (Below w.heap.size w w1) := ((bel_alloc _ _).trans ((bel_alloc _ _).mono (by simp))).trans (hb.mono (by simp; omega))
      clear hb
      go_wp2
      go_ret
      exact ⟨rfl, HB.out⟩

end Go.Proofs.Ythbdjnaamjnibaa

/- Sync, on both sides. -/
import Derived.Test.YthblnifapkfbcaaDoorRows
import Derived.WalkKit
import Derived.WalkSpells
import Derived.WalkLawsBesides
import Derived.Deep.QuietTactic
import Derived.BigQuiet
import Derived.Deep.RegionHeld3
import Derived.Test.YthblnifapkfbcaaDoorTa
import Derived.Test.YthblnifapkfbcaaDoorCl
import Derived.LoopN
import Derived.Deep.Cut
namespace Go.Proofs.YthblnifapkfbcaaDoor
open Go.RowKit
set_option linter.unusedSimpArgs false
set_option linter.unusedVariables false

/-- What a call that answers a disk and a code leaves. -/
def DP (w : World) (code : Int) (rs ru : List ByteArray) (e : Ending) (w' : World) : Prop := ∃ p0 c0 p1 c1, e = .returned (.tuple #[.agg #[.slice p0 rs.length c0, .slice p1 ru.length c1], .int .i64 code]) ∧ Below w.heap.size w w' ∧ Own2 w' (.slice p0 rs.length c0) (.slice p1 ru.length c1) rs ru w.heap.size w'.heap.size
theorem own2_nil (W : World) (lo hi : Nat) : Own2 W (.slice none 0 0) (.slice none 0 0) [] [] lo hi :=
  ⟨World.ownsRow_nil W 0 9 1, World.ownsRow_nil W 0 9 1, fun k hk => absurd hk Gro.none_ne, fun k hk => absurd hk Gro.none_ne, fun k hk => absurd hk Gro.none_ne⟩
/-- A box of two cells that may be written. -/
structure Th2 (W : World) (p : Nat) : Prop where
  cells : (∃ u, W.cell? ⟨p, 0, none⟩ = some u) ∧ (∃ u, W.cell? ⟨p, 1, none⟩ = some u)
  f0 : W.frozen? ⟨p, 0, none⟩ = false
  f1 : W.frozen? ⟨p, 1, none⟩ = false
theorem Th2.next {W W' : World} {p : Nat} (h : Th2 W p) (hb : Below W.heap.size W W') : Th2 W' p := by
  obtain ⟨⟨⟨u, h0⟩, ⟨v, h1⟩⟩, f0, f1⟩ := h
  exact ⟨⟨⟨u, cell_next hb h0 (cell_lt' h0)⟩, ⟨v, cell_next hb h1 (cell_lt' h1)⟩⟩, frozen_next hb f0 (cell_lt' h0), frozen_next hb f1 (cell_lt' h0)⟩
theorem Th2.gro {W W' : World} {p lo : Nat} {v v' : Value} {ss : List ByteArray} (h : Th2 W p) (ho : OwnT W v ss lo) (hg : Gro W W' v v') (hp : p < lo) : Th2 W' p := by
  obtain ⟨⟨⟨u, h0⟩, ⟨u', h1⟩⟩, f0, f1⟩ := h
  exact ⟨⟨⟨u, ho.cell hg h0 hp⟩, ⟨u', ho.cell hg h1 hp⟩⟩, ho.frozen hg f0 (cell_lt' h0) hp, ho.frozen hg f1 (cell_lt' h0) hp⟩
theorem th2_new {W : World} {v0 v1 : Value} {t : TypeId} : Th2 (W.alloc (.cells #[v0, v1] t)) W.heap.size := ⟨⟨⟨v0, by go_simp⟩, ⟨v1, by go_simp⟩⟩, by go_simp, by go_simp⟩
theorem set2_cells {W : World} {p : Nat} {v0 v1 : Value} (h : Th2 W p) : ((W.setCell ⟨p, 0, none⟩ v0).setCell ⟨p, 1, none⟩ v1).cell? ⟨p, 0, none⟩ = some v0 ∧ ((W.setCell ⟨p, 0, none⟩ v0).setCell ⟨p, 1, none⟩ v1).cell? ⟨p, 1, none⟩ = some v1 := by
  obtain ⟨⟨⟨u, h0⟩, ⟨u', h1⟩⟩, _, _⟩ := h
  refine ⟨?_, ?_⟩
  · rw [World.cell?_setCell_other _ _ _ _ (fun e => by cases e)]
    exact World.cell?_setCell_same W _ _ h0
  · have h2 : (W.setCell ⟨p, 0, none⟩ v0).cell? ⟨p, 1, none⟩ = some u' := by
      rw [World.cell?_setCell_other _ _ _ _ (fun e => by cases e)]; exact h1
    exact World.cell?_setCell_same _ _ _ h2
theorem OwnT.apart {W W' : World} {v v' u : Value} {ss : List ByteArray} {lo : Nat} (hu : OwnT W u ss lo) (hne : ∀ k, v.ownBlock = some k → u.ownBlock ≠ some k) (hg : Gro W W' v v') : OwnT W' u ss lo ∧ ∀ k, v'.ownBlock = some k → u.ownBlock ≠ some k := by
  refine ⟨⟨own_gro hu.own hg (fun k hk e => hne k e hk), hu.ge⟩, fun k hk e => ?_⟩
  rcases hg.fresh k hk with h' | h'
  · exact hne k h' e
  · have := (hu.own.lt k e).2; omega
theorem own2_of {W : World} {v0 v1 : Value} {rs ru : List ByteArray} {lo : Nat} (h0 : OwnT W v0 rs lo) (h1 : OwnT W v1 ru lo) (hne : ∀ k, v0.ownBlock = some k → v1.ownBlock ≠ some k) : Own2 W v0 v1 rs ru lo W.heap.size := ⟨h0.own, h1.own, h0.lt, h1.lt, hne⟩

theorem th2_drew {W : World} {p : Nat} (h : Th2 W p) : Th2 W.drew p := h.next (bel_drew _)
set_option maxHeartbeats 4000000 in
theorem l04Sync_any (v0 v1 : Value) (ss us : List ByteArray) (w : World) (hn : ss.length ≤ 1048576) (hn' : us.length ≤ 1048576) (hr0 : RowV w v0 ss) (hs0 : RowV w v1 us) :
    Calls Tryd.prog 30 #[.agg #[v0, v1]] w fun e w' => ∃ p0 c0 p1 c1, e = .returned (.agg #[.slice p0 (ss.length + us.length) c0, .slice p1 0 c1]) ∧ Below w.heap.size w w' ∧ Own2 w' (.slice p0 (ss.length + us.length) c0) (.slice p1 0 c1) ([] ++ ss ++ us) [] w.heap.size w'.heap.size := by
  obtain ⟨ao, c0, rfl, _, hr0⟩ := hr0
  obtain ⟨bo, c1, rfl, _, hs0⟩ := hs0
  have RA : Hid (TRow w ao ss) := hr0
  have RU : Hid (TRow w bo us) := hs0
  obtain ⟨n, hn0⟩ : ∃ n, n = ss.length := ⟨_, rfl⟩
  obtain ⟨m, hm0⟩ : ∃ m, m = us.length := ⟨_, rfl⟩
  have HN : Hid (n = ss.length) := hn0
  have HM : Hid (m = us.length) := hm0
  rw [← hn0, ← hm0]
  rw [← hn0] at hn
  rw [← hm0] at hn'
  clear hn0 hm0 hr0 hs0
  have B0 : Hid (Below w.heap.size w ((w.alloc (.cells #[.slice ao n c0, .slice bo m c1] 25)).alloc (.cells #[.slice none 0 0, .slice none 0 0] 25))) := ((Below.refl _ _).alloc (Nat.le_refl _) _).alloc (by simp) _
  go_enter Tryd.func30, Tryd.ntmps30
  go_wp2
  refine wp_region_held_drew (S := (fun w' => (w'.cell? ⟨w.heap.size, 0, none⟩ = some (.slice ao n c0) ∧ w'.cell? ⟨w.heap.size, 1, none⟩ = some (.slice bo m c1)) ∧ (w.heap.size + 1 + 1) ≤ w'.heap.size ∧ Below w.heap.size w w')) (by kernel_rfl) ?_ (fun hHeld => ?_)
  · (try dsimp only)
    exact ⟨⟨by go_simp, by go_simp⟩, by simp, B0.out.drew⟩
  refine wpAnyH_take (i := 1) (v := ?_) rfl (by kernel_rfl) (by kernel_rfl) (by kernel_rfl) (fun _ _ _ h => h) (Or.inl ⟨by rfl, ?_⟩) (by assumption) ?_
  rotate_left
  · intro w' hSw
    (try dsimp only at hSw)
    go_simp
    all_goals (try with_reducible rfl)
  (try simp only [Act.put, List.getElem_toArray, List.getElem_cons_zero, List.getElem_cons_succ, List.setIfInBounds_toArray, List.set_cons_zero, List.set_cons_succ])
  refine wpAnyH_take (i := 2) (v := ?_) rfl (by kernel_rfl) (by kernel_rfl) (by kernel_rfl) (fun _ _ _ h => h) (Or.inl ⟨by rfl, ?_⟩) (by assumption) ?_
  rotate_left
  · intro w' hSw
    (try dsimp only at hSw)
    go_simp
    all_goals (try with_reducible rfl)
  (try simp only [Act.put, List.getElem_toArray, List.getElem_cons_zero, List.getElem_cons_succ, List.setIfInBounds_toArray, List.set_cons_zero, List.set_cons_succ])
  refine wpAnyH_take (i := 4) (v := ?_) rfl (by kernel_rfl) (by kernel_rfl) (by kernel_rfl) (fun _ _ _ h => h) (Or.inl ⟨by rfl, ?_⟩) (by assumption) ?_
  rotate_left
  · intro w' hSw
    (try dsimp only at hSw)
    go_simp
    all_goals (try with_reducible rfl)
  (try simp only [Act.put, List.getElem_toArray, List.getElem_cons_zero, List.getElem_cons_succ, List.setIfInBounds_toArray, List.set_cons_zero, List.set_cons_succ])
  refine wpAnyH_take (i := 5) (v := ?_) rfl (by kernel_rfl) (by kernel_rfl) (by kernel_rfl) (fun _ _ _ h => h) (Or.inl ⟨by rfl, ?_⟩) (by assumption) ?_
  rotate_left
  · intro w' hSw
    (try dsimp only at hSw)
    go_simp
    all_goals (try with_reducible rfl)
  (try simp only [Act.put, List.getElem_toArray, List.getElem_cons_zero, List.getElem_cons_succ, List.setIfInBounds_toArray, List.set_cons_zero, List.set_cons_succ])
  have TH : Hid (Th2 (((w.alloc (.cells #[.slice ao n c0, .slice bo m c1] 25)).alloc (.cells #[.slice none 0 0, .slice none 0 0] 25)).drew) (w.heap.size + 1)) := th2_drew (by have := th2_new (W := (w.alloc (.cells #[.slice ao n c0, .slice bo m c1] 25))) (v0 := .slice none 0 0) (v1 := .slice none 0 0) (t := 25); simpa using this)
  generalize ((w.alloc (.cells #[.slice ao n c0, .slice bo m c1] 25)).alloc (.cells #[.slice none 0 0, .slice none 0 0] 25)).drew = wd at *
  clear B0
  refine wpAnyH_ready (rs := [0, 7]) (by kernel_rfl) (by simp) ?_
  refine AllReadyH.cons rfl (fun K hK => ?_) (AllReadyH.cons rfl (fun K hK => ?_) AllReadyH.nil)
  · (try simp only [Act.put, List.getElem_toArray, List.getElem_cons_zero, List.getElem_cons_succ, List.setIfInBounds_toArray, List.set_cons_zero, List.set_cons_succ])
    have C' : OwnT (wd.alloc (.cells #[] 9)) (.slice (some ⟨wd.heap.size, 0, none⟩) 0 0) [] (w.heap.size + 1 + 1) := OwnT.new hHeld.2.1
    have hba := bel_alloc wd (.cells #[] 9)
    go_simp
    (try simp only [])
    refine hK.out _ _ ?_ (fun hHeld' => ?_)
    · (try dsimp only)
      exact ⟨⟨cell_next hba hHeld.1.1 (cell_lt' hHeld.1.1), cell_next hba hHeld.1.2 (cell_lt' hHeld.1.2)⟩, Nat.le_trans hHeld.2.1 (hba).size, (bel_next (w := w) hHeld.2.2 hba).out⟩
    clear hK K hHeld
    have hHeld := hHeld'
    clear hHeld'
    (try simp only [Act.put, List.getElem_toArray, List.getElem_cons_zero, List.getElem_cons_succ, List.setIfInBounds_toArray, List.set_cons_zero, List.set_cons_succ])
    replace TH : Hid _ := TH.out.next hba
    have C : Hid _ := C'
    clear C' hba
    generalize wd.alloc (.cells #[] 9) = w2 at *
    generalize wd.heap.size = g0 at *
    refine wpAnyH_ready (rs := [3, 7]) (by kernel_rfl) (by simp) ?_
    refine AllReadyH.cons rfl (fun K hK => ?_) (AllReadyH.cons rfl (fun K hK => ?_) AllReadyH.nil)
    · (try simp only [Act.put, List.getElem_toArray, List.getElem_cons_zero, List.getElem_cons_succ, List.setIfInBounds_toArray, List.set_cons_zero, List.set_cons_succ])
      rw [if_pos (by rfl)]
      refine wp_appT (.tmp 3) (.tmp 5) rfl rfl (Value.slice (some ⟨g0, 0, none⟩) 0 0) 0 [] (w.heap.size + 1 + 1) n rfl rfl C.out hHeld.2.1 ao n c0 ss rfl HN.out (RA.out.next hHeld.2.2) (by omega) (by omega) ?_
      intro vow3 vcw3 w3 hO hg
      refine hK.out _ _ ?_ (fun hHeld' => ?_)
      · (try dsimp only)
        exact ⟨⟨C.out.cell hg hHeld.1.1 (by omega), C.out.cell hg hHeld.1.2 (by omega)⟩, Nat.le_trans hHeld.2.1 hg.size, C.out.below hHeld.2.2 (by omega) hg⟩
      clear hK K hHeld
      have hHeld := hHeld'
      clear hHeld'
      (try simp only [Act.put, List.getElem_toArray, List.getElem_cons_zero, List.getElem_cons_succ, List.setIfInBounds_toArray, List.set_cons_zero, List.set_cons_succ])
      replace TH : Hid _ := TH.out.gro C.out hg (by omega)
      replace C : Hid _ := hO
      clear hO hg
      refine wpAnyH_ready (rs := [6, 7]) (by kernel_rfl) (by simp) ?_
      refine AllReadyH.cons rfl (fun K hK => ?_) (AllReadyH.cons rfl (fun K hK => ?_) AllReadyH.nil)
      · (try simp only [Act.put, List.getElem_toArray, List.getElem_cons_zero, List.getElem_cons_succ, List.setIfInBounds_toArray, List.set_cons_zero, List.set_cons_succ])
        rw [if_pos (by rfl)]
        refine wp_appT (.tmp 6) (.tmp 8) rfl rfl (Value.slice vow3 n vcw3) n ([] ++ ss) (w.heap.size + 1 + 1) (n + m) rfl (by simpa using HN.out) C.out hHeld.2.1 bo m c1 us rfl HM.out (RU.out.next hHeld.2.2) (by omega) rfl ?_
        intro vow4 vcw4 w4 hO hg
        refine hK.out _ _ ?_ (fun hHeld' => ?_)
        · (try dsimp only)
          exact ⟨⟨C.out.cell hg hHeld.1.1 (by omega), C.out.cell hg hHeld.1.2 (by omega)⟩, Nat.le_trans hHeld.2.1 hg.size, C.out.below hHeld.2.2 (by omega) hg⟩
        clear hK K hHeld
        have hHeld := hHeld'
        clear hHeld'
        (try simp only [Act.put, List.getElem_toArray, List.getElem_cons_zero, List.getElem_cons_succ, List.setIfInBounds_toArray, List.set_cons_zero, List.set_cons_succ])
        replace TH : Hid _ := TH.out.gro C.out hg (by omega)
        replace C : Hid _ := hO
        clear hO hg
        refine wpAnyH_ready (rs := [7]) (by kernel_rfl) (by simp) ?_
        refine AllReadyH.cons rfl (fun K hK => ?_) AllReadyH.nil
        (try simp only [Act.put, List.getElem_toArray, List.getElem_cons_zero, List.getElem_cons_succ, List.setIfInBounds_toArray, List.set_cons_zero, List.set_cons_succ])
        have N' : OwnT (w4.alloc (.cells #[] 9)) (.slice (some ⟨w4.heap.size, 0, none⟩) 0 0) [] (w.heap.size + 1 + 1) := OwnT.new hHeld.2.1
        have hba := bel_alloc w4 (.cells #[] 9)
        have NE : Hid (∀ k, (Value.slice vow4 (n + m) vcw4).ownBlock = some k → ((Value.slice (some ⟨w4.heap.size, 0, none⟩) 0 0)).ownBlock ≠ some k) := fun k e e_ => by have := (C.out.own.lt _ e).2; simp [Value.ownBlock] at e_; omega
        go_simp
        (try simp only [])
        refine hK.out _ _ ?_ (fun hHeld' => ?_)
        · (try dsimp only)
          exact ⟨⟨cell_next hba hHeld.1.1 (cell_lt' hHeld.1.1), cell_next hba hHeld.1.2 (cell_lt' hHeld.1.2)⟩, Nat.le_trans hHeld.2.1 (hba).size, (bel_next (w := w) hHeld.2.2 hba).out⟩
        clear hK K hHeld
        have hHeld := hHeld'
        clear hHeld'
        (try simp only [Act.put, List.getElem_toArray, List.getElem_cons_zero, List.getElem_cons_succ, List.setIfInBounds_toArray, List.set_cons_zero, List.set_cons_succ])
        replace C : Hid _ := C.out.next hba
        replace TH : Hid _ := TH.out.next hba
        have N : Hid _ := N'
        clear N' hba
        generalize w4.alloc (.cells #[] 9) = w5 at *
        generalize w4.heap.size = g7 at *
        refine wpAnyH_take (i := 8) (v := ?_) rfl (by kernel_rfl) (by kernel_rfl) (by kernel_rfl) (fun _ _ _ h => h) (Or.inl ⟨by rfl, ?_⟩) (by assumption) ?_
        rotate_left
        · intro w' hSw
          (try dsimp only at hSw)
          go_simp
          all_goals (try with_reducible rfl)
        (try simp only [Act.put, List.getElem_toArray, List.getElem_cons_zero, List.getElem_cons_succ, List.setIfInBounds_toArray, List.set_cons_zero, List.set_cons_succ])
        obtain ⟨⟨⟨u0, T0⟩, ⟨u1, T1⟩⟩, Z0, Z1⟩ := TH.out
        refine wpAnyH_ready (rs := [9]) (by kernel_rfl) (by simp) ?_
        refine AllReadyH.cons rfl (fun K hK => ?_) AllReadyH.nil
        (try simp only [Act.put, List.getElem_toArray, List.getElem_cons_zero, List.getElem_cons_succ, List.setIfInBounds_toArray, List.set_cons_zero, List.set_cons_succ])
        go_simp
        (try simp only [])
        refine hK.out _ _ ?_ (fun hHeld' => ?_)
        · (try dsimp only)
          exact ⟨⟨cell_set (cell_set hHeld.1.1 (by omega)) (by omega), cell_set (cell_set hHeld.1.2 (by omega)) (by omega)⟩, by simpa [World.setCell] using hHeld.2.1, bel_set (bel_set hHeld.2.2 (by omega)) (by omega)⟩
        clear hK K hHeld
        have hHeld := hHeld'
        clear hHeld'
        (try simp only [Act.put, List.getElem_toArray, List.getElem_cons_zero, List.getElem_cons_succ, List.setIfInBounds_toArray, List.set_cons_zero, List.set_cons_succ])
        have CC := set2_cells (v0 := Value.slice vow4 (n + m) vcw4) (v1 := Value.slice (some ⟨g7, 0, none⟩) 0 0) TH.out
        obtain ⟨C0, C1⟩ := CC
        have OO := own2_of C.out N.out NE.out
        have HZ : Hid (w.heap.size + 1 + 1 ≤ w5.heap.size ∧ Below w.heap.size w _) := ⟨by simpa [World.setCell] using hHeld.2.1, hHeld.2.2⟩
        have O9 : Hid _ := Own2.set (g := w.heap.size + 1) (o := 1) (u := Value.slice (some ⟨g7, 0, none⟩) 0 0) (Own2.set (g := w.heap.size + 1) (o := 0) (u := Value.slice vow4 (n + m) vcw4) OO (Or.inl (by omega))) (Or.inl (by omega))
        clear T0 T1 Z0 Z1 hHeld OO TH C N NE
        refine wpAnyH_done (by kernel_rfl) ?_ _
        go_wp2_with fail
        refine bodyPost_ret (v := .agg #[Value.slice vow4 (n + m) vcw4, Value.slice (some ⟨g7, 0, none⟩) 0 0]) (by simp [results, Tryd.results30, go_sem, *]) rfl ?_
        exact ⟨_, _, _, _, rfl, HZ.out.2, Own2.weak O9.out (by omega) (by simp)⟩
      · (try simp only [Act.put, List.getElem_toArray, List.getElem_cons_zero, List.getElem_cons_succ, List.setIfInBounds_toArray, List.set_cons_zero, List.set_cons_succ])
        have N' : OwnT (w3.alloc (.cells #[] 9)) (.slice (some ⟨w3.heap.size, 0, none⟩) 0 0) [] (w.heap.size + 1 + 1) := OwnT.new hHeld.2.1
        have hba := bel_alloc w3 (.cells #[] 9)
        have NE : Hid (∀ k, (Value.slice vow3 n vcw3).ownBlock = some k → ((Value.slice (some ⟨w3.heap.size, 0, none⟩) 0 0)).ownBlock ≠ some k) := fun k e e_ => by have := (C.out.own.lt _ e).2; simp [Value.ownBlock] at e_; omega
        go_simp
        (try simp only [])
        refine hK.out _ _ ?_ (fun hHeld' => ?_)
        · (try dsimp only)
          exact ⟨⟨cell_next hba hHeld.1.1 (cell_lt' hHeld.1.1), cell_next hba hHeld.1.2 (cell_lt' hHeld.1.2)⟩, Nat.le_trans hHeld.2.1 (hba).size, (bel_next (w := w) hHeld.2.2 hba).out⟩
        clear hK K hHeld
        have hHeld := hHeld'
        clear hHeld'
        (try simp only [Act.put, List.getElem_toArray, List.getElem_cons_zero, List.getElem_cons_succ, List.setIfInBounds_toArray, List.set_cons_zero, List.set_cons_succ])
        replace C : Hid _ := C.out.next hba
        replace TH : Hid _ := TH.out.next hba
        have N : Hid _ := N'
        clear N' hba
        generalize w3.alloc (.cells #[] 9) = w4 at *
        generalize w3.heap.size = g7 at *
        refine wpAnyH_ready (rs := [6]) (by kernel_rfl) (by simp) ?_
        refine AllReadyH.cons rfl (fun K hK => ?_) AllReadyH.nil
        (try simp only [Act.put, List.getElem_toArray, List.getElem_cons_zero, List.getElem_cons_succ, List.setIfInBounds_toArray, List.set_cons_zero, List.set_cons_succ])
        rw [if_pos (by rfl)]
        refine wp_appT (.tmp 6) (.tmp 8) rfl rfl (Value.slice vow3 n vcw3) n ([] ++ ss) (w.heap.size + 1 + 1) (n + m) rfl (by simpa using HN.out) C.out hHeld.2.1 bo m c1 us rfl HM.out (RU.out.next hHeld.2.2) (by omega) rfl ?_
        intro vow5 vcw5 w5 hO hg
        have hap := N.out.apart NE.out hg
        refine hK.out _ _ ?_ (fun hHeld' => ?_)
        · (try dsimp only)
          exact ⟨⟨C.out.cell hg hHeld.1.1 (by omega), C.out.cell hg hHeld.1.2 (by omega)⟩, Nat.le_trans hHeld.2.1 hg.size, C.out.below hHeld.2.2 (by omega) hg⟩
        clear hK K hHeld
        have hHeld := hHeld'
        clear hHeld'
        (try simp only [Act.put, List.getElem_toArray, List.getElem_cons_zero, List.getElem_cons_succ, List.setIfInBounds_toArray, List.set_cons_zero, List.set_cons_succ])
        replace N : Hid _ := hap.1
        replace NE : Hid _ := hap.2
        clear hap
        replace TH : Hid _ := TH.out.gro C.out hg (by omega)
        replace C : Hid _ := hO
        clear hO hg
        refine wpAnyH_take (i := 8) (v := ?_) rfl (by kernel_rfl) (by kernel_rfl) (by kernel_rfl) (fun _ _ _ h => h) (Or.inl ⟨by rfl, ?_⟩) (by assumption) ?_
        rotate_left
        · intro w' hSw
          (try dsimp only at hSw)
          go_simp
          all_goals (try with_reducible rfl)
        (try simp only [Act.put, List.getElem_toArray, List.getElem_cons_zero, List.getElem_cons_succ, List.setIfInBounds_toArray, List.set_cons_zero, List.set_cons_succ])
        obtain ⟨⟨⟨u0, T0⟩, ⟨u1, T1⟩⟩, Z0, Z1⟩ := TH.out
        refine wpAnyH_ready (rs := [9]) (by kernel_rfl) (by simp) ?_
        refine AllReadyH.cons rfl (fun K hK => ?_) AllReadyH.nil
        (try simp only [Act.put, List.getElem_toArray, List.getElem_cons_zero, List.getElem_cons_succ, List.setIfInBounds_toArray, List.set_cons_zero, List.set_cons_succ])
        go_simp
        (try simp only [])
        refine hK.out _ _ ?_ (fun hHeld' => ?_)
        · (try dsimp only)
          exact ⟨⟨cell_set (cell_set hHeld.1.1 (by omega)) (by omega), cell_set (cell_set hHeld.1.2 (by omega)) (by omega)⟩, by simpa [World.setCell] using hHeld.2.1, bel_set (bel_set hHeld.2.2 (by omega)) (by omega)⟩
        clear hK K hHeld
        have hHeld := hHeld'
        clear hHeld'
        (try simp only [Act.put, List.getElem_toArray, List.getElem_cons_zero, List.getElem_cons_succ, List.setIfInBounds_toArray, List.set_cons_zero, List.set_cons_succ])
        have CC := set2_cells (v0 := Value.slice vow5 (n + m) vcw5) (v1 := Value.slice (some ⟨g7, 0, none⟩) 0 0) TH.out
        obtain ⟨C0, C1⟩ := CC
        have OO := own2_of C.out N.out NE.out
        have HZ : Hid (w.heap.size + 1 + 1 ≤ w5.heap.size ∧ Below w.heap.size w _) := ⟨by simpa [World.setCell] using hHeld.2.1, hHeld.2.2⟩
        have O9 : Hid _ := Own2.set (g := w.heap.size + 1) (o := 1) (u := Value.slice (some ⟨g7, 0, none⟩) 0 0) (Own2.set (g := w.heap.size + 1) (o := 0) (u := Value.slice vow5 (n + m) vcw5) OO (Or.inl (by omega))) (Or.inl (by omega))
        clear T0 T1 Z0 Z1 hHeld OO TH C N NE
        refine wpAnyH_done (by kernel_rfl) ?_ _
        go_wp2_with fail
        refine bodyPost_ret (v := .agg #[Value.slice vow5 (n + m) vcw5, Value.slice (some ⟨g7, 0, none⟩) 0 0]) (by simp [results, Tryd.results30, go_sem, *]) rfl ?_
        exact ⟨_, _, _, _, rfl, HZ.out.2, Own2.weak O9.out (by omega) (by simp)⟩
    · (try simp only [Act.put, List.getElem_toArray, List.getElem_cons_zero, List.getElem_cons_succ, List.setIfInBounds_toArray, List.set_cons_zero, List.set_cons_succ])
      have N' : OwnT (w2.alloc (.cells #[] 9)) (.slice (some ⟨w2.heap.size, 0, none⟩) 0 0) [] (w.heap.size + 1 + 1) := OwnT.new hHeld.2.1
      have hba := bel_alloc w2 (.cells #[] 9)
      have NE : Hid (∀ k, (Value.slice (some ⟨g0, 0, none⟩) 0 0).ownBlock = some k → ((Value.slice (some ⟨w2.heap.size, 0, none⟩) 0 0)).ownBlock ≠ some k) := fun k e e_ => by have := (C.out.own.lt _ e).2; simp [Value.ownBlock] at e_; omega
      go_simp
      (try simp only [])
      refine hK.out _ _ ?_ (fun hHeld' => ?_)
      · (try dsimp only)
        exact ⟨⟨cell_next hba hHeld.1.1 (cell_lt' hHeld.1.1), cell_next hba hHeld.1.2 (cell_lt' hHeld.1.2)⟩, Nat.le_trans hHeld.2.1 (hba).size, (bel_next (w := w) hHeld.2.2 hba).out⟩
      clear hK K hHeld
      have hHeld := hHeld'
      clear hHeld'
      (try simp only [Act.put, List.getElem_toArray, List.getElem_cons_zero, List.getElem_cons_succ, List.setIfInBounds_toArray, List.set_cons_zero, List.set_cons_succ])
      replace C : Hid _ := C.out.next hba
      replace TH : Hid _ := TH.out.next hba
      have N : Hid _ := N'
      clear N' hba
      generalize w2.alloc (.cells #[] 9) = w3 at *
      generalize w2.heap.size = g7 at *
      refine wpAnyH_ready (rs := [3]) (by kernel_rfl) (by simp) ?_
      refine AllReadyH.cons rfl (fun K hK => ?_) AllReadyH.nil
      (try simp only [Act.put, List.getElem_toArray, List.getElem_cons_zero, List.getElem_cons_succ, List.setIfInBounds_toArray, List.set_cons_zero, List.set_cons_succ])
      rw [if_pos (by rfl)]
      refine wp_appT (.tmp 3) (.tmp 5) rfl rfl (Value.slice (some ⟨g0, 0, none⟩) 0 0) 0 [] (w.heap.size + 1 + 1) n rfl rfl C.out hHeld.2.1 ao n c0 ss rfl HN.out (RA.out.next hHeld.2.2) (by omega) (by omega) ?_
      intro vow4 vcw4 w4 hO hg
      have hap := N.out.apart NE.out hg
      refine hK.out _ _ ?_ (fun hHeld' => ?_)
      · (try dsimp only)
        exact ⟨⟨C.out.cell hg hHeld.1.1 (by omega), C.out.cell hg hHeld.1.2 (by omega)⟩, Nat.le_trans hHeld.2.1 hg.size, C.out.below hHeld.2.2 (by omega) hg⟩
      clear hK K hHeld
      have hHeld := hHeld'
      clear hHeld'
      (try simp only [Act.put, List.getElem_toArray, List.getElem_cons_zero, List.getElem_cons_succ, List.setIfInBounds_toArray, List.set_cons_zero, List.set_cons_succ])
      replace N : Hid _ := hap.1
      replace NE : Hid _ := hap.2
      clear hap
      replace TH : Hid _ := TH.out.gro C.out hg (by omega)
      replace C : Hid _ := hO
      clear hO hg
      refine wpAnyH_ready (rs := [6]) (by kernel_rfl) (by simp) ?_
      refine AllReadyH.cons rfl (fun K hK => ?_) AllReadyH.nil
      (try simp only [Act.put, List.getElem_toArray, List.getElem_cons_zero, List.getElem_cons_succ, List.setIfInBounds_toArray, List.set_cons_zero, List.set_cons_succ])
      rw [if_pos (by rfl)]
      refine wp_appT (.tmp 6) (.tmp 8) rfl rfl (Value.slice vow4 n vcw4) n ([] ++ ss) (w.heap.size + 1 + 1) (n + m) rfl (by simpa using HN.out) C.out hHeld.2.1 bo m c1 us rfl HM.out (RU.out.next hHeld.2.2) (by omega) rfl ?_
      intro vow5 vcw5 w5 hO hg
      have hap := N.out.apart NE.out hg
      refine hK.out _ _ ?_ (fun hHeld' => ?_)
      · (try dsimp only)
        exact ⟨⟨C.out.cell hg hHeld.1.1 (by omega), C.out.cell hg hHeld.1.2 (by omega)⟩, Nat.le_trans hHeld.2.1 hg.size, C.out.below hHeld.2.2 (by omega) hg⟩
      clear hK K hHeld
      have hHeld := hHeld'
      clear hHeld'
      (try simp only [Act.put, List.getElem_toArray, List.getElem_cons_zero, List.getElem_cons_succ, List.setIfInBounds_toArray, List.set_cons_zero, List.set_cons_succ])
      replace N : Hid _ := hap.1
      replace NE : Hid _ := hap.2
      clear hap
      replace TH : Hid _ := TH.out.gro C.out hg (by omega)
      replace C : Hid _ := hO
      clear hO hg
      refine wpAnyH_take (i := 8) (v := ?_) rfl (by kernel_rfl) (by kernel_rfl) (by kernel_rfl) (fun _ _ _ h => h) (Or.inl ⟨by rfl, ?_⟩) (by assumption) ?_
      rotate_left
      · intro w' hSw
        (try dsimp only at hSw)
        go_simp
        all_goals (try with_reducible rfl)
      (try simp only [Act.put, List.getElem_toArray, List.getElem_cons_zero, List.getElem_cons_succ, List.setIfInBounds_toArray, List.set_cons_zero, List.set_cons_succ])
      obtain ⟨⟨⟨u0, T0⟩, ⟨u1, T1⟩⟩, Z0, Z1⟩ := TH.out
      refine wpAnyH_ready (rs := [9]) (by kernel_rfl) (by simp) ?_
      refine AllReadyH.cons rfl (fun K hK => ?_) AllReadyH.nil
      (try simp only [Act.put, List.getElem_toArray, List.getElem_cons_zero, List.getElem_cons_succ, List.setIfInBounds_toArray, List.set_cons_zero, List.set_cons_succ])
      go_simp
      (try simp only [])
      refine hK.out _ _ ?_ (fun hHeld' => ?_)
      · (try dsimp only)
        exact ⟨⟨cell_set (cell_set hHeld.1.1 (by omega)) (by omega), cell_set (cell_set hHeld.1.2 (by omega)) (by omega)⟩, by simpa [World.setCell] using hHeld.2.1, bel_set (bel_set hHeld.2.2 (by omega)) (by omega)⟩
      clear hK K hHeld
      have hHeld := hHeld'
      clear hHeld'
      (try simp only [Act.put, List.getElem_toArray, List.getElem_cons_zero, List.getElem_cons_succ, List.setIfInBounds_toArray, List.set_cons_zero, List.set_cons_succ])
      have CC := set2_cells (v0 := Value.slice vow5 (n + m) vcw5) (v1 := Value.slice (some ⟨g7, 0, none⟩) 0 0) TH.out
      obtain ⟨C0, C1⟩ := CC
      have OO := own2_of C.out N.out NE.out
      have HZ : Hid (w.heap.size + 1 + 1 ≤ w5.heap.size ∧ Below w.heap.size w _) := ⟨by simpa [World.setCell] using hHeld.2.1, hHeld.2.2⟩
      have O9 : Hid _ := Own2.set (g := w.heap.size + 1) (o := 1) (u := Value.slice (some ⟨g7, 0, none⟩) 0 0) (Own2.set (g := w.heap.size + 1) (o := 0) (u := Value.slice vow5 (n + m) vcw5) OO (Or.inl (by omega))) (Or.inl (by omega))
      clear T0 T1 Z0 Z1 hHeld OO TH C N NE
      refine wpAnyH_done (by kernel_rfl) ?_ _
      go_wp2_with fail
      refine bodyPost_ret (v := .agg #[Value.slice vow5 (n + m) vcw5, Value.slice (some ⟨g7, 0, none⟩) 0 0]) (by simp [results, Tryd.results30, go_sem, *]) rfl ?_
      exact ⟨_, _, _, _, rfl, HZ.out.2, Own2.weak O9.out (by omega) (by simp)⟩
  · (try simp only [Act.put, List.getElem_toArray, List.getElem_cons_zero, List.getElem_cons_succ, List.setIfInBounds_toArray, List.set_cons_zero, List.set_cons_succ])
    have N' : OwnT (wd.alloc (.cells #[] 9)) (.slice (some ⟨wd.heap.size, 0, none⟩) 0 0) [] (w.heap.size + 1 + 1) := OwnT.new hHeld.2.1
    have hba := bel_alloc wd (.cells #[] 9)
    go_simp
    (try simp only [])
    refine hK.out _ _ ?_ (fun hHeld' => ?_)
    · (try dsimp only)
      exact ⟨⟨cell_next hba hHeld.1.1 (cell_lt' hHeld.1.1), cell_next hba hHeld.1.2 (cell_lt' hHeld.1.2)⟩, Nat.le_trans hHeld.2.1 (hba).size, (bel_next (w := w) hHeld.2.2 hba).out⟩
    clear hK K hHeld
    have hHeld := hHeld'
    clear hHeld'
    (try simp only [Act.put, List.getElem_toArray, List.getElem_cons_zero, List.getElem_cons_succ, List.setIfInBounds_toArray, List.set_cons_zero, List.set_cons_succ])
    replace TH : Hid _ := TH.out.next hba
    have N : Hid _ := N'
    clear N' hba
    generalize wd.alloc (.cells #[] 9) = w2 at *
    generalize wd.heap.size = g7 at *
    refine wpAnyH_ready (rs := [0]) (by kernel_rfl) (by simp) ?_
    refine AllReadyH.cons rfl (fun K hK => ?_) AllReadyH.nil
    (try simp only [Act.put, List.getElem_toArray, List.getElem_cons_zero, List.getElem_cons_succ, List.setIfInBounds_toArray, List.set_cons_zero, List.set_cons_succ])
    have C' : OwnT (w2.alloc (.cells #[] 9)) (.slice (some ⟨w2.heap.size, 0, none⟩) 0 0) [] (w.heap.size + 1 + 1) := OwnT.new hHeld.2.1
    have hba := bel_alloc w2 (.cells #[] 9)
    have NE : Hid (∀ k, ((Value.slice (some ⟨w2.heap.size, 0, none⟩) 0 0)).ownBlock = some k → (Value.slice (some ⟨g7, 0, none⟩) 0 0).ownBlock ≠ some k) := fun k e e_ => by have := (N.out.own.lt _ e_).2; simp [Value.ownBlock] at e; omega
    go_simp
    (try simp only [])
    refine hK.out _ _ ?_ (fun hHeld' => ?_)
    · (try dsimp only)
      exact ⟨⟨cell_next hba hHeld.1.1 (cell_lt' hHeld.1.1), cell_next hba hHeld.1.2 (cell_lt' hHeld.1.2)⟩, Nat.le_trans hHeld.2.1 (hba).size, (bel_next (w := w) hHeld.2.2 hba).out⟩
    clear hK K hHeld
    have hHeld := hHeld'
    clear hHeld'
    (try simp only [Act.put, List.getElem_toArray, List.getElem_cons_zero, List.getElem_cons_succ, List.setIfInBounds_toArray, List.set_cons_zero, List.set_cons_succ])
    replace N : Hid _ := N.out.next hba
    replace TH : Hid _ := TH.out.next hba
    have C : Hid _ := C'
    clear C' hba
    generalize w2.alloc (.cells #[] 9) = w3 at *
    generalize w2.heap.size = g0 at *
    refine wpAnyH_ready (rs := [3]) (by kernel_rfl) (by simp) ?_
    refine AllReadyH.cons rfl (fun K hK => ?_) AllReadyH.nil
    (try simp only [Act.put, List.getElem_toArray, List.getElem_cons_zero, List.getElem_cons_succ, List.setIfInBounds_toArray, List.set_cons_zero, List.set_cons_succ])
    rw [if_pos (by rfl)]
    refine wp_appT (.tmp 3) (.tmp 5) rfl rfl (Value.slice (some ⟨g0, 0, none⟩) 0 0) 0 [] (w.heap.size + 1 + 1) n rfl rfl C.out hHeld.2.1 ao n c0 ss rfl HN.out (RA.out.next hHeld.2.2) (by omega) (by omega) ?_
    intro vow4 vcw4 w4 hO hg
    have hap := N.out.apart NE.out hg
    refine hK.out _ _ ?_ (fun hHeld' => ?_)
    · (try dsimp only)
      exact ⟨⟨C.out.cell hg hHeld.1.1 (by omega), C.out.cell hg hHeld.1.2 (by omega)⟩, Nat.le_trans hHeld.2.1 hg.size, C.out.below hHeld.2.2 (by omega) hg⟩
    clear hK K hHeld
    have hHeld := hHeld'
    clear hHeld'
    (try simp only [Act.put, List.getElem_toArray, List.getElem_cons_zero, List.getElem_cons_succ, List.setIfInBounds_toArray, List.set_cons_zero, List.set_cons_succ])
    replace N : Hid _ := hap.1
    replace NE : Hid _ := hap.2
    clear hap
    replace TH : Hid _ := TH.out.gro C.out hg (by omega)
    replace C : Hid _ := hO
    clear hO hg
    refine wpAnyH_ready (rs := [6]) (by kernel_rfl) (by simp) ?_
    refine AllReadyH.cons rfl (fun K hK => ?_) AllReadyH.nil
    (try simp only [Act.put, List.getElem_toArray, List.getElem_cons_zero, List.getElem_cons_succ, List.setIfInBounds_toArray, List.set_cons_zero, List.set_cons_succ])
    rw [if_pos (by rfl)]
    refine wp_appT (.tmp 6) (.tmp 8) rfl rfl (Value.slice vow4 n vcw4) n ([] ++ ss) (w.heap.size + 1 + 1) (n + m) rfl (by simpa using HN.out) C.out hHeld.2.1 bo m c1 us rfl HM.out (RU.out.next hHeld.2.2) (by omega) rfl ?_
    intro vow5 vcw5 w5 hO hg
    have hap := N.out.apart NE.out hg
    refine hK.out _ _ ?_ (fun hHeld' => ?_)
    · (try dsimp only)
      exact ⟨⟨C.out.cell hg hHeld.1.1 (by omega), C.out.cell hg hHeld.1.2 (by omega)⟩, Nat.le_trans hHeld.2.1 hg.size, C.out.below hHeld.2.2 (by omega) hg⟩
    clear hK K hHeld
    have hHeld := hHeld'
    clear hHeld'
    (try simp only [Act.put, List.getElem_toArray, List.getElem_cons_zero, List.getElem_cons_succ, List.setIfInBounds_toArray, List.set_cons_zero, List.set_cons_succ])
    replace N : Hid _ := hap.1
    replace NE : Hid _ := hap.2
    clear hap
    replace TH : Hid _ := TH.out.gro C.out hg (by omega)
    replace C : Hid _ := hO
    clear hO hg
    refine wpAnyH_take (i := 8) (v := ?_) rfl (by kernel_rfl) (by kernel_rfl) (by kernel_rfl) (fun _ _ _ h => h) (Or.inl ⟨by rfl, ?_⟩) (by assumption) ?_
    rotate_left
    · intro w' hSw
      (try dsimp only at hSw)
      go_simp
      all_goals (try with_reducible rfl)
    (try simp only [Act.put, List.getElem_toArray, List.getElem_cons_zero, List.getElem_cons_succ, List.setIfInBounds_toArray, List.set_cons_zero, List.set_cons_succ])
    obtain ⟨⟨⟨u0, T0⟩, ⟨u1, T1⟩⟩, Z0, Z1⟩ := TH.out
    refine wpAnyH_ready (rs := [9]) (by kernel_rfl) (by simp) ?_
    refine AllReadyH.cons rfl (fun K hK => ?_) AllReadyH.nil
    (try simp only [Act.put, List.getElem_toArray, List.getElem_cons_zero, List.getElem_cons_succ, List.setIfInBounds_toArray, List.set_cons_zero, List.set_cons_succ])
    go_simp
    (try simp only [])
    refine hK.out _ _ ?_ (fun hHeld' => ?_)
    · (try dsimp only)
      exact ⟨⟨cell_set (cell_set hHeld.1.1 (by omega)) (by omega), cell_set (cell_set hHeld.1.2 (by omega)) (by omega)⟩, by simpa [World.setCell] using hHeld.2.1, bel_set (bel_set hHeld.2.2 (by omega)) (by omega)⟩
    clear hK K hHeld
    have hHeld := hHeld'
    clear hHeld'
    (try simp only [Act.put, List.getElem_toArray, List.getElem_cons_zero, List.getElem_cons_succ, List.setIfInBounds_toArray, List.set_cons_zero, List.set_cons_succ])
    have CC := set2_cells (v0 := Value.slice vow5 (n + m) vcw5) (v1 := Value.slice (some ⟨g7, 0, none⟩) 0 0) TH.out
    obtain ⟨C0, C1⟩ := CC
    have OO := own2_of C.out N.out NE.out
    have HZ : Hid (w.heap.size + 1 + 1 ≤ w5.heap.size ∧ Below w.heap.size w _) := ⟨by simpa [World.setCell] using hHeld.2.1, hHeld.2.2⟩
    have O9 : Hid _ := Own2.set (g := w.heap.size + 1) (o := 1) (u := Value.slice (some ⟨g7, 0, none⟩) 0 0) (Own2.set (g := w.heap.size + 1) (o := 0) (u := Value.slice vow5 (n + m) vcw5) OO (Or.inl (by omega))) (Or.inl (by omega))
    clear T0 T1 Z0 Z1 hHeld OO TH C N NE
    refine wpAnyH_done (by kernel_rfl) ?_ _
    go_wp2_with fail
    refine bodyPost_ret (v := .agg #[Value.slice vow5 (n + m) vcw5, Value.slice (some ⟨g7, 0, none⟩) 0 0]) (by simp [results, Tryd.results30, go_sem, *]) rfl ?_
    exact ⟨_, _, _, _, rfl, HZ.out.2, Own2.weak O9.out (by omega) (by simp)⟩
end Go.Proofs.YthblnifapkfbcaaDoor

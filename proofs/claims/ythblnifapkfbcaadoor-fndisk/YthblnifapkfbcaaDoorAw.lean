/- Disks that a line is added to: the specification's side. -/
import Derived.Test.YthblnifapkfbcaaDoorRows
import Derived.WalkKit
import Derived.WalkSpells
import Derived.WalkLawsBesides
import Derived.Deep.QuietTactic
import Derived.BigQuiet
import Derived.Deep.RegionHeld3
import Derived.Test.YthblnifapkfbcaaDoorTa
import Derived.Test.YthblnifapkfbcaaDoorCl
import Derived.Test.YthblnifapkfbcaaDoorSe
import Derived.LoopN
import Derived.Test.YthblnifapkfbcaaDoorSy
namespace Go.Proofs.YthblnifapkfbcaaDoor
open Go.RowKit
set_option linter.unusedSimpArgs false
set_option linter.unusedVariables false

set_option maxHeartbeats 4000000 in
theorem l04Own_raw (v0 v1 : Value) (ss us : List ByteArray) (w : World) (hn : ss.length ≤ 1048576) (hn' : us.length ≤ 1048577) (hr0 : RowV w v0 ss) (hs0 : RowV w v1 us) :
    Calls Tryd.prog 31 #[.agg #[v0, v1]] w fun e w' => ∃ p0 c0 p1 c1, e = .returned (.agg #[.slice p0 ss.length c0, .slice p1 us.length c1]) ∧ Below w.heap.size w w' ∧ Own2 w' (.slice p0 ss.length c0) (.slice p1 us.length c1) ([] ++ ss) ([] ++ us) w.heap.size w'.heap.size := by
  obtain ⟨ao, c0, rfl, _, hr0⟩ := hr0
  obtain ⟨bo, c1, rfl, _, hs0⟩ := hs0
  have RA : Hid (TRow w ao ss) := hr0
  have RU : Hid (TRow w bo us) := hs0
  obtain ⟨n, hn0⟩ : ∃ n, n = ss.length := ⟨_, rfl⟩
  obtain ⟨m, hm0⟩ : ∃ m, m = us.length := ⟨_, rfl⟩
  have HN : Hid (n = ss.length) := hn0
  have HM : Hid (m = us.length) := hm0
  rw [← hn0, ← hm0]
  rw [← hn0] at hn
  rw [← hm0] at hn'
  clear hn0 hm0 hr0 hs0
  have B0 : Hid (Below w.heap.size w ((w.alloc (.cells #[.slice ao n c0, .slice bo m c1] 25)).alloc (.cells #[.slice none 0 0, .slice none 0 0] 25))) := ((Below.refl _ _).alloc (Nat.le_refl _) _).alloc (by simp) _
  go_enter Tryd.func31, Tryd.ntmps31
  go_wp2
  refine wp_region_held_drew (S := (fun w' => (w'.cell? ⟨w.heap.size, 0, none⟩ = some (.slice ao n c0) ∧ w'.cell? ⟨w.heap.size, 1, none⟩ = some (.slice bo m c1)) ∧ (w.heap.size + 1 + 1) ≤ w'.heap.size ∧ Below w.heap.size w w')) (by kernel_rfl) ?_ (fun hHeld => ?_)
  · (try dsimp only)
    exact ⟨⟨by go_simp, by go_simp⟩, by simp, B0.out.drew⟩
  refine wpAnyH_take (i := 1) (v := ?_) rfl (by kernel_rfl) (by kernel_rfl) (by kernel_rfl) (fun _ _ _ h => h) (Or.inl ⟨by rfl, ?_⟩) (by assumption) ?_
  rotate_left
  · intro w' hSw
    (try dsimp only at hSw)
    go_simp
    all_goals (try with_reducible rfl)
  (try simp only [Act.put, List.getElem_toArray, List.getElem_cons_zero, List.getElem_cons_succ, List.setIfInBounds_toArray, List.set_cons_zero, List.set_cons_succ])
  refine wpAnyH_take (i := 2) (v := ?_) rfl (by kernel_rfl) (by kernel_rfl) (by kernel_rfl) (fun _ _ _ h => h) (Or.inl ⟨by rfl, ?_⟩) (by assumption) ?_
  rotate_left
  · intro w' hSw
    (try dsimp only at hSw)
    go_simp
    all_goals (try with_reducible rfl)
  (try simp only [Act.put, List.getElem_toArray, List.getElem_cons_zero, List.getElem_cons_succ, List.setIfInBounds_toArray, List.set_cons_zero, List.set_cons_succ])
  refine wpAnyH_take (i := 5) (v := ?_) rfl (by kernel_rfl) (by kernel_rfl) (by kernel_rfl) (fun _ _ _ h => h) (Or.inl ⟨by rfl, ?_⟩) (by assumption) ?_
  rotate_left
  · intro w' hSw
    (try dsimp only at hSw)
    go_simp
    all_goals (try with_reducible rfl)
  (try simp only [Act.put, List.getElem_toArray, List.getElem_cons_zero, List.getElem_cons_succ, List.setIfInBounds_toArray, List.set_cons_zero, List.set_cons_succ])
  refine wpAnyH_take (i := 6) (v := ?_) rfl (by kernel_rfl) (by kernel_rfl) (by kernel_rfl) (fun _ _ _ h => h) (Or.inl ⟨by rfl, ?_⟩) (by assumption) ?_
  rotate_left
  · intro w' hSw
    (try dsimp only at hSw)
    go_simp
    all_goals (try with_reducible rfl)
  (try simp only [Act.put, List.getElem_toArray, List.getElem_cons_zero, List.getElem_cons_succ, List.setIfInBounds_toArray, List.set_cons_zero, List.set_cons_succ])
  have TH : Hid (Th2 (((w.alloc (.cells #[.slice ao n c0, .slice bo m c1] 25)).alloc (.cells #[.slice none 0 0, .slice none 0 0] 25)).drew) (w.heap.size + 1)) := Th2.next (by have := th2_new (W := (w.alloc (.cells #[.slice ao n c0, .slice bo m c1] 25))) (v0 := .slice none 0 0) (v1 := .slice none 0 0) (t := 25); simpa using this) (bel_drew _)
  generalize ((w.alloc (.cells #[.slice ao n c0, .slice bo m c1] 25)).alloc (.cells #[.slice none 0 0, .slice none 0 0] 25)).drew = wd at *
  clear B0
  refine wpAnyH_ready (rs := [0, 4]) (by kernel_rfl) (by simp) ?_
  refine AllReadyH.cons rfl (fun K hK => ?_) (AllReadyH.cons rfl (fun K hK => ?_) AllReadyH.nil)
  · (try simp only [Act.put, List.getElem_toArray, List.getElem_cons_zero, List.getElem_cons_succ, List.setIfInBounds_toArray, List.set_cons_zero, List.set_cons_succ])
    have C' : OwnT (wd.alloc (.cells #[] 9)) (.slice (some ⟨wd.heap.size, 0, none⟩) 0 0) [] (w.heap.size + 1 + 1) := OwnT.new hHeld.2.1
    have hba := bel_alloc wd (.cells #[] 9)
    go_simp
    (try simp only [])
    refine hK.out _ _ ?_ (fun hHeld' => ?_)
    · (try dsimp only)
      exact ⟨⟨cell_next hba hHeld.1.1 (cell_lt' hHeld.1.1), cell_next hba hHeld.1.2 (cell_lt' hHeld.1.2)⟩, Nat.le_trans hHeld.2.1 (hba).size, (bel_next (w := w) hHeld.2.2 hba).out⟩
    clear hK K hHeld
    have hHeld := hHeld'
    clear hHeld'
    (try simp only [Act.put, List.getElem_toArray, List.getElem_cons_zero, List.getElem_cons_succ, List.setIfInBounds_toArray, List.set_cons_zero, List.set_cons_succ])
    replace TH : Hid _ := TH.out.next hba
    have C : Hid _ := C'
    clear C' hba
    generalize wd.alloc (.cells #[] 9) = w2 at *
    generalize wd.heap.size = g0 at *
    refine wpAnyH_ready (rs := [3, 4]) (by kernel_rfl) (by simp) ?_
    refine AllReadyH.cons rfl (fun K hK => ?_) (AllReadyH.cons rfl (fun K hK => ?_) AllReadyH.nil)
    · (try simp only [Act.put, List.getElem_toArray, List.getElem_cons_zero, List.getElem_cons_succ, List.setIfInBounds_toArray, List.set_cons_zero, List.set_cons_succ])
      rw [if_pos (by rfl)]
      refine wp_appT (.tmp 3) (.tmp 5) rfl rfl (Value.slice (some ⟨g0, 0, none⟩) 0 0) 0 [] (w.heap.size + 1 + 1) n rfl rfl C.out hHeld.2.1 ao n c0 ss rfl HN.out (RA.out.next hHeld.2.2) (by omega) (by omega) ?_
      intro vow3 vcw3 w3 hO hg
      refine hK.out _ _ ?_ (fun hHeld' => ?_)
      · (try dsimp only)
        exact ⟨⟨C.out.cell hg hHeld.1.1 (by omega), C.out.cell hg hHeld.1.2 (by omega)⟩, Nat.le_trans hHeld.2.1 hg.size, C.out.below hHeld.2.2 (by omega) hg⟩
      clear hK K hHeld
      have hHeld := hHeld'
      clear hHeld'
      (try simp only [Act.put, List.getElem_toArray, List.getElem_cons_zero, List.getElem_cons_succ, List.setIfInBounds_toArray, List.set_cons_zero, List.set_cons_succ])
      replace TH : Hid _ := TH.out.gro C.out hg (by omega)
      replace C : Hid _ := hO
      clear hO hg
      refine wpAnyH_ready (rs := [4]) (by kernel_rfl) (by simp) ?_
      refine AllReadyH.cons rfl (fun K hK => ?_) AllReadyH.nil
      (try simp only [Act.put, List.getElem_toArray, List.getElem_cons_zero, List.getElem_cons_succ, List.setIfInBounds_toArray, List.set_cons_zero, List.set_cons_succ])
      have N' : OwnT (w3.alloc (.cells #[] 9)) (.slice (some ⟨w3.heap.size, 0, none⟩) 0 0) [] (w.heap.size + 1 + 1) := OwnT.new hHeld.2.1
      have hba := bel_alloc w3 (.cells #[] 9)
      have NE : Hid (∀ k, (Value.slice vow3 n vcw3).ownBlock = some k → ((Value.slice (some ⟨w3.heap.size, 0, none⟩) 0 0)).ownBlock ≠ some k) := fun k e e_ => by have := (C.out.own.lt _ e).2; simp [Value.ownBlock] at e_; omega
      go_simp
      (try simp only [])
      refine hK.out _ _ ?_ (fun hHeld' => ?_)
      · (try dsimp only)
        exact ⟨⟨cell_next hba hHeld.1.1 (cell_lt' hHeld.1.1), cell_next hba hHeld.1.2 (cell_lt' hHeld.1.2)⟩, Nat.le_trans hHeld.2.1 (hba).size, (bel_next (w := w) hHeld.2.2 hba).out⟩
      clear hK K hHeld
      have hHeld := hHeld'
      clear hHeld'
      (try simp only [Act.put, List.getElem_toArray, List.getElem_cons_zero, List.getElem_cons_succ, List.setIfInBounds_toArray, List.set_cons_zero, List.set_cons_succ])
      replace C : Hid _ := C.out.next hba
      replace TH : Hid _ := TH.out.next hba
      have N : Hid _ := N'
      clear N' hba
      generalize w3.alloc (.cells #[] 9) = w4 at *
      generalize w3.heap.size = g7 at *
      refine wpAnyH_ready (rs := [7]) (by kernel_rfl) (by simp) ?_
      refine AllReadyH.cons rfl (fun K hK => ?_) AllReadyH.nil
      (try simp only [Act.put, List.getElem_toArray, List.getElem_cons_zero, List.getElem_cons_succ, List.setIfInBounds_toArray, List.set_cons_zero, List.set_cons_succ])
      rw [if_pos (by rfl)]
      refine wp_appT (.tmp 7) (.tmp 9) rfl rfl (Value.slice (some ⟨g7, 0, none⟩) 0 0) 0 [] (w.heap.size + 1 + 1) m rfl rfl N.out hHeld.2.1 bo m c1 us rfl HM.out (RU.out.next hHeld.2.2) (by omega) (by omega) ?_
      intro vow5 vcw5 w5 hO hg
      have hap := C.out.apart (v := Value.slice (some ⟨g7, 0, none⟩) 0 0) (fun k h h_ => NE.out k h_ h) hg
      refine hK.out _ _ ?_ (fun hHeld' => ?_)
      · (try dsimp only)
        exact ⟨⟨N.out.cell hg hHeld.1.1 (by omega), N.out.cell hg hHeld.1.2 (by omega)⟩, Nat.le_trans hHeld.2.1 hg.size, N.out.below hHeld.2.2 (by omega) hg⟩
      clear hK K hHeld
      have hHeld := hHeld'
      clear hHeld'
      (try simp only [Act.put, List.getElem_toArray, List.getElem_cons_zero, List.getElem_cons_succ, List.setIfInBounds_toArray, List.set_cons_zero, List.set_cons_succ])
      replace C : Hid _ := hap.1
      replace NE : Hid _ := (fun k h h_ => hap.2 k h_ h)
      clear hap
      replace TH : Hid _ := TH.out.gro N.out hg (by omega)
      replace N : Hid _ := hO
      clear hO hg
      refine wpAnyH_take (i := 8) (v := ?_) rfl (by kernel_rfl) (by kernel_rfl) (by kernel_rfl) (fun _ _ _ h => h) (Or.inl ⟨by rfl, ?_⟩) (by assumption) ?_
      rotate_left
      · intro w' hSw
        (try dsimp only at hSw)
        go_simp
        all_goals (try with_reducible rfl)
      (try simp only [Act.put, List.getElem_toArray, List.getElem_cons_zero, List.getElem_cons_succ, List.setIfInBounds_toArray, List.set_cons_zero, List.set_cons_succ])
      obtain ⟨⟨⟨u0, T0⟩, ⟨u1, T1⟩⟩, Z0, Z1⟩ := TH.out
      refine wpAnyH_ready (rs := [9]) (by kernel_rfl) (by simp) ?_
      refine AllReadyH.cons rfl (fun K hK => ?_) AllReadyH.nil
      (try simp only [Act.put, List.getElem_toArray, List.getElem_cons_zero, List.getElem_cons_succ, List.setIfInBounds_toArray, List.set_cons_zero, List.set_cons_succ])
      go_simp
      (try simp only [])
      refine hK.out _ _ ?_ (fun hHeld' => ?_)
      · (try dsimp only)
        exact ⟨⟨cell_set (cell_set hHeld.1.1 (by omega)) (by omega), cell_set (cell_set hHeld.1.2 (by omega)) (by omega)⟩, by simpa [World.setCell] using hHeld.2.1, bel_set (bel_set hHeld.2.2 (by omega)) (by omega)⟩
      clear hK K hHeld
      have hHeld := hHeld'
      clear hHeld'
      (try simp only [Act.put, List.getElem_toArray, List.getElem_cons_zero, List.getElem_cons_succ, List.setIfInBounds_toArray, List.set_cons_zero, List.set_cons_succ])
      have CC := set2_cells (v0 := Value.slice vow3 n vcw3) (v1 := Value.slice vow5 m vcw5) TH.out
      obtain ⟨C0, C1⟩ := CC
      have OO := own2_of C.out N.out NE.out
      have HZ : Hid (w.heap.size + 1 + 1 ≤ w5.heap.size ∧ Below w.heap.size w _) := ⟨by simpa [World.setCell] using hHeld.2.1, hHeld.2.2⟩
      have O9 : Hid _ := Own2.set (g := w.heap.size + 1) (o := 1) (u := Value.slice vow5 m vcw5) (Own2.set (g := w.heap.size + 1) (o := 0) (u := Value.slice vow3 n vcw3) OO (Or.inl (by omega))) (Or.inl (by omega))
      clear T0 T1 Z0 Z1 hHeld OO TH C N NE
      refine wpAnyH_done (by kernel_rfl) ?_ _
      go_wp2_with fail
      refine bodyPost_ret (v := .agg #[Value.slice vow3 n vcw3, Value.slice vow5 m vcw5]) (by simp [results, Tryd.results31, go_sem, *]) rfl ?_
      exact ⟨_, _, _, _, rfl, HZ.out.2, Own2.weak O9.out (by omega) (by simp)⟩
    · (try simp only [Act.put, List.getElem_toArray, List.getElem_cons_zero, List.getElem_cons_succ, List.setIfInBounds_toArray, List.set_cons_zero, List.set_cons_succ])
      have N' : OwnT (w2.alloc (.cells #[] 9)) (.slice (some ⟨w2.heap.size, 0, none⟩) 0 0) [] (w.heap.size + 1 + 1) := OwnT.new hHeld.2.1
      have hba := bel_alloc w2 (.cells #[] 9)
      have NE : Hid (∀ k, (Value.slice (some ⟨g0, 0, none⟩) 0 0).ownBlock = some k → ((Value.slice (some ⟨w2.heap.size, 0, none⟩) 0 0)).ownBlock ≠ some k) := fun k e e_ => by have := (C.out.own.lt _ e).2; simp [Value.ownBlock] at e_; omega
      go_simp
      (try simp only [])
      refine hK.out _ _ ?_ (fun hHeld' => ?_)
      · (try dsimp only)
        exact ⟨⟨cell_next hba hHeld.1.1 (cell_lt' hHeld.1.1), cell_next hba hHeld.1.2 (cell_lt' hHeld.1.2)⟩, Nat.le_trans hHeld.2.1 (hba).size, (bel_next (w := w) hHeld.2.2 hba).out⟩
      clear hK K hHeld
      have hHeld := hHeld'
      clear hHeld'
      (try simp only [Act.put, List.getElem_toArray, List.getElem_cons_zero, List.getElem_cons_succ, List.setIfInBounds_toArray, List.set_cons_zero, List.set_cons_succ])
      replace C : Hid _ := C.out.next hba
      replace TH : Hid _ := TH.out.next hba
      have N : Hid _ := N'
      clear N' hba
      generalize w2.alloc (.cells #[] 9) = w3 at *
      generalize w2.heap.size = g7 at *
      refine wpAnyH_ready (rs := [3]) (by kernel_rfl) (by simp) ?_
      refine AllReadyH.cons rfl (fun K hK => ?_) AllReadyH.nil
      (try simp only [Act.put, List.getElem_toArray, List.getElem_cons_zero, List.getElem_cons_succ, List.setIfInBounds_toArray, List.set_cons_zero, List.set_cons_succ])
      rw [if_pos (by rfl)]
      refine wp_appT (.tmp 3) (.tmp 5) rfl rfl (Value.slice (some ⟨g0, 0, none⟩) 0 0) 0 [] (w.heap.size + 1 + 1) n rfl rfl C.out hHeld.2.1 ao n c0 ss rfl HN.out (RA.out.next hHeld.2.2) (by omega) (by omega) ?_
      intro vow4 vcw4 w4 hO hg
      have hap := N.out.apart (v := Value.slice (some ⟨g0, 0, none⟩) 0 0) NE.out hg
      refine hK.out _ _ ?_ (fun hHeld' => ?_)
      · (try dsimp only)
        exact ⟨⟨C.out.cell hg hHeld.1.1 (by omega), C.out.cell hg hHeld.1.2 (by omega)⟩, Nat.le_trans hHeld.2.1 hg.size, C.out.below hHeld.2.2 (by omega) hg⟩
      clear hK K hHeld
      have hHeld := hHeld'
      clear hHeld'
      (try simp only [Act.put, List.getElem_toArray, List.getElem_cons_zero, List.getElem_cons_succ, List.setIfInBounds_toArray, List.set_cons_zero, List.set_cons_succ])
      replace N : Hid _ := hap.1
      replace NE : Hid _ := hap.2
      clear hap
      replace TH : Hid _ := TH.out.gro C.out hg (by omega)
      replace C : Hid _ := hO
      clear hO hg
      refine wpAnyH_ready (rs := [7]) (by kernel_rfl) (by simp) ?_
      refine AllReadyH.cons rfl (fun K hK => ?_) AllReadyH.nil
      (try simp only [Act.put, List.getElem_toArray, List.getElem_cons_zero, List.getElem_cons_succ, List.setIfInBounds_toArray, List.set_cons_zero, List.set_cons_succ])
      rw [if_pos (by rfl)]
      refine wp_appT (.tmp 7) (.tmp 9) rfl rfl (Value.slice (some ⟨g7, 0, none⟩) 0 0) 0 [] (w.heap.size + 1 + 1) m rfl rfl N.out hHeld.2.1 bo m c1 us rfl HM.out (RU.out.next hHeld.2.2) (by omega) (by omega) ?_
      intro vow5 vcw5 w5 hO hg
      have hap := C.out.apart (v := Value.slice (some ⟨g7, 0, none⟩) 0 0) (fun k h h_ => NE.out k h_ h) hg
      refine hK.out _ _ ?_ (fun hHeld' => ?_)
      · (try dsimp only)
        exact ⟨⟨N.out.cell hg hHeld.1.1 (by omega), N.out.cell hg hHeld.1.2 (by omega)⟩, Nat.le_trans hHeld.2.1 hg.size, N.out.below hHeld.2.2 (by omega) hg⟩
      clear hK K hHeld
      have hHeld := hHeld'
      clear hHeld'
      (try simp only [Act.put, List.getElem_toArray, List.getElem_cons_zero, List.getElem_cons_succ, List.setIfInBounds_toArray, List.set_cons_zero, List.set_cons_succ])
      replace C : Hid _ := hap.1
      replace NE : Hid _ := (fun k h h_ => hap.2 k h_ h)
      clear hap
      replace TH : Hid _ := TH.out.gro N.out hg (by omega)
      replace N : Hid _ := hO
      clear hO hg
      refine wpAnyH_take (i := 8) (v := ?_) rfl (by kernel_rfl) (by kernel_rfl) (by kernel_rfl) (fun _ _ _ h => h) (Or.inl ⟨by rfl, ?_⟩) (by assumption) ?_
      rotate_left
      · intro w' hSw
        (try dsimp only at hSw)
        go_simp
        all_goals (try with_reducible rfl)
      (try simp only [Act.put, List.getElem_toArray, List.getElem_cons_zero, List.getElem_cons_succ, List.setIfInBounds_toArray, List.set_cons_zero, List.set_cons_succ])
      obtain ⟨⟨⟨u0, T0⟩, ⟨u1, T1⟩⟩, Z0, Z1⟩ := TH.out
      refine wpAnyH_ready (rs := [9]) (by kernel_rfl) (by simp) ?_
      refine AllReadyH.cons rfl (fun K hK => ?_) AllReadyH.nil
      (try simp only [Act.put, List.getElem_toArray, List.getElem_cons_zero, List.getElem_cons_succ, List.setIfInBounds_toArray, List.set_cons_zero, List.set_cons_succ])
      go_simp
      (try simp only [])
      refine hK.out _ _ ?_ (fun hHeld' => ?_)
      · (try dsimp only)
        exact ⟨⟨cell_set (cell_set hHeld.1.1 (by omega)) (by omega), cell_set (cell_set hHeld.1.2 (by omega)) (by omega)⟩, by simpa [World.setCell] using hHeld.2.1, bel_set (bel_set hHeld.2.2 (by omega)) (by omega)⟩
      clear hK K hHeld
      have hHeld := hHeld'
      clear hHeld'
      (try simp only [Act.put, List.getElem_toArray, List.getElem_cons_zero, List.getElem_cons_succ, List.setIfInBounds_toArray, List.set_cons_zero, List.set_cons_succ])
      have CC := set2_cells (v0 := Value.slice vow4 n vcw4) (v1 := Value.slice vow5 m vcw5) TH.out
      obtain ⟨C0, C1⟩ := CC
      have OO := own2_of C.out N.out NE.out
      have HZ : Hid (w.heap.size + 1 + 1 ≤ w5.heap.size ∧ Below w.heap.size w _) := ⟨by simpa [World.setCell] using hHeld.2.1, hHeld.2.2⟩
      have O9 : Hid _ := Own2.set (g := w.heap.size + 1) (o := 1) (u := Value.slice vow5 m vcw5) (Own2.set (g := w.heap.size + 1) (o := 0) (u := Value.slice vow4 n vcw4) OO (Or.inl (by omega))) (Or.inl (by omega))
      clear T0 T1 Z0 Z1 hHeld OO TH C N NE
      refine wpAnyH_done (by kernel_rfl) ?_ _
      go_wp2_with fail
      refine bodyPost_ret (v := .agg #[Value.slice vow4 n vcw4, Value.slice vow5 m vcw5]) (by simp [results, Tryd.results31, go_sem, *]) rfl ?_
      exact ⟨_, _, _, _, rfl, HZ.out.2, Own2.weak O9.out (by omega) (by simp)⟩
  · (try simp only [Act.put, List.getElem_toArray, List.getElem_cons_zero, List.getElem_cons_succ, List.setIfInBounds_toArray, List.set_cons_zero, List.set_cons_succ])
    have N' : OwnT (wd.alloc (.cells #[] 9)) (.slice (some ⟨wd.heap.size, 0, none⟩) 0 0) [] (w.heap.size + 1 + 1) := OwnT.new hHeld.2.1
    have hba := bel_alloc wd (.cells #[] 9)
    go_simp
    (try simp only [])
    refine hK.out _ _ ?_ (fun hHeld' => ?_)
    · (try dsimp only)
      exact ⟨⟨cell_next hba hHeld.1.1 (cell_lt' hHeld.1.1), cell_next hba hHeld.1.2 (cell_lt' hHeld.1.2)⟩, Nat.le_trans hHeld.2.1 (hba).size, (bel_next (w := w) hHeld.2.2 hba).out⟩
    clear hK K hHeld
    have hHeld := hHeld'
    clear hHeld'
    (try simp only [Act.put, List.getElem_toArray, List.getElem_cons_zero, List.getElem_cons_succ, List.setIfInBounds_toArray, List.set_cons_zero, List.set_cons_succ])
    replace TH : Hid _ := TH.out.next hba
    have N : Hid _ := N'
    clear N' hba
    generalize wd.alloc (.cells #[] 9) = w2 at *
    generalize wd.heap.size = g7 at *
    refine wpAnyH_ready (rs := [0]) (by kernel_rfl) (by simp) ?_
    refine AllReadyH.cons rfl (fun K hK => ?_) AllReadyH.nil
    (try simp only [Act.put, List.getElem_toArray, List.getElem_cons_zero, List.getElem_cons_succ, List.setIfInBounds_toArray, List.set_cons_zero, List.set_cons_succ])
    have C' : OwnT (w2.alloc (.cells #[] 9)) (.slice (some ⟨w2.heap.size, 0, none⟩) 0 0) [] (w.heap.size + 1 + 1) := OwnT.new hHeld.2.1
    have hba := bel_alloc w2 (.cells #[] 9)
    have NE : Hid (∀ k, ((Value.slice (some ⟨w2.heap.size, 0, none⟩) 0 0)).ownBlock = some k → (Value.slice (some ⟨g7, 0, none⟩) 0 0).ownBlock ≠ some k) := fun k e e_ => by have := (N.out.own.lt _ e_).2; simp [Value.ownBlock] at e; omega
    go_simp
    (try simp only [])
    refine hK.out _ _ ?_ (fun hHeld' => ?_)
    · (try dsimp only)
      exact ⟨⟨cell_next hba hHeld.1.1 (cell_lt' hHeld.1.1), cell_next hba hHeld.1.2 (cell_lt' hHeld.1.2)⟩, Nat.le_trans hHeld.2.1 (hba).size, (bel_next (w := w) hHeld.2.2 hba).out⟩
    clear hK K hHeld
    have hHeld := hHeld'
    clear hHeld'
    (try simp only [Act.put, List.getElem_toArray, List.getElem_cons_zero, List.getElem_cons_succ, List.setIfInBounds_toArray, List.set_cons_zero, List.set_cons_succ])
    replace N : Hid _ := N.out.next hba
    replace TH : Hid _ := TH.out.next hba
    have C : Hid _ := C'
    clear C' hba
    generalize w2.alloc (.cells #[] 9) = w3 at *
    generalize w2.heap.size = g0 at *
    refine wpAnyH_ready (rs := [3]) (by kernel_rfl) (by simp) ?_
    refine AllReadyH.cons rfl (fun K hK => ?_) AllReadyH.nil
    (try simp only [Act.put, List.getElem_toArray, List.getElem_cons_zero, List.getElem_cons_succ, List.setIfInBounds_toArray, List.set_cons_zero, List.set_cons_succ])
    rw [if_pos (by rfl)]
    refine wp_appT (.tmp 3) (.tmp 5) rfl rfl (Value.slice (some ⟨g0, 0, none⟩) 0 0) 0 [] (w.heap.size + 1 + 1) n rfl rfl C.out hHeld.2.1 ao n c0 ss rfl HN.out (RA.out.next hHeld.2.2) (by omega) (by omega) ?_
    intro vow4 vcw4 w4 hO hg
    have hap := N.out.apart (v := Value.slice (some ⟨g0, 0, none⟩) 0 0) NE.out hg
    refine hK.out _ _ ?_ (fun hHeld' => ?_)
    · (try dsimp only)
      exact ⟨⟨C.out.cell hg hHeld.1.1 (by omega), C.out.cell hg hHeld.1.2 (by omega)⟩, Nat.le_trans hHeld.2.1 hg.size, C.out.below hHeld.2.2 (by omega) hg⟩
    clear hK K hHeld
    have hHeld := hHeld'
    clear hHeld'
    (try simp only [Act.put, List.getElem_toArray, List.getElem_cons_zero, List.getElem_cons_succ, List.setIfInBounds_toArray, List.set_cons_zero, List.set_cons_succ])
    replace N : Hid _ := hap.1
    replace NE : Hid _ := hap.2
    clear hap
    replace TH : Hid _ := TH.out.gro C.out hg (by omega)
    replace C : Hid _ := hO
    clear hO hg
    refine wpAnyH_ready (rs := [7]) (by kernel_rfl) (by simp) ?_
    refine AllReadyH.cons rfl (fun K hK => ?_) AllReadyH.nil
    (try simp only [Act.put, List.getElem_toArray, List.getElem_cons_zero, List.getElem_cons_succ, List.setIfInBounds_toArray, List.set_cons_zero, List.set_cons_succ])
    rw [if_pos (by rfl)]
    refine wp_appT (.tmp 7) (.tmp 9) rfl rfl (Value.slice (some ⟨g7, 0, none⟩) 0 0) 0 [] (w.heap.size + 1 + 1) m rfl rfl N.out hHeld.2.1 bo m c1 us rfl HM.out (RU.out.next hHeld.2.2) (by omega) (by omega) ?_
    intro vow5 vcw5 w5 hO hg
    have hap := C.out.apart (v := Value.slice (some ⟨g7, 0, none⟩) 0 0) (fun k h h_ => NE.out k h_ h) hg
    refine hK.out _ _ ?_ (fun hHeld' => ?_)
    · (try dsimp only)
      exact ⟨⟨N.out.cell hg hHeld.1.1 (by omega), N.out.cell hg hHeld.1.2 (by omega)⟩, Nat.le_trans hHeld.2.1 hg.size, N.out.below hHeld.2.2 (by omega) hg⟩
    clear hK K hHeld
    have hHeld := hHeld'
    clear hHeld'
    (try simp only [Act.put, List.getElem_toArray, List.getElem_cons_zero, List.getElem_cons_succ, List.setIfInBounds_toArray, List.set_cons_zero, List.set_cons_succ])
    replace C : Hid _ := hap.1
    replace NE : Hid _ := (fun k h h_ => hap.2 k h_ h)
    clear hap
    replace TH : Hid _ := TH.out.gro N.out hg (by omega)
    replace N : Hid _ := hO
    clear hO hg
    refine wpAnyH_take (i := 8) (v := ?_) rfl (by kernel_rfl) (by kernel_rfl) (by kernel_rfl) (fun _ _ _ h => h) (Or.inl ⟨by rfl, ?_⟩) (by assumption) ?_
    rotate_left
    · intro w' hSw
      (try dsimp only at hSw)
      go_simp
      all_goals (try with_reducible rfl)
    (try simp only [Act.put, List.getElem_toArray, List.getElem_cons_zero, List.getElem_cons_succ, List.setIfInBounds_toArray, List.set_cons_zero, List.set_cons_succ])
    obtain ⟨⟨⟨u0, T0⟩, ⟨u1, T1⟩⟩, Z0, Z1⟩ := TH.out
    refine wpAnyH_ready (rs := [9]) (by kernel_rfl) (by simp) ?_
    refine AllReadyH.cons rfl (fun K hK => ?_) AllReadyH.nil
    (try simp only [Act.put, List.getElem_toArray, List.getElem_cons_zero, List.getElem_cons_succ, List.setIfInBounds_toArray, List.set_cons_zero, List.set_cons_succ])
    go_simp
    (try simp only [])
    refine hK.out _ _ ?_ (fun hHeld' => ?_)
    · (try dsimp only)
      exact ⟨⟨cell_set (cell_set hHeld.1.1 (by omega)) (by omega), cell_set (cell_set hHeld.1.2 (by omega)) (by omega)⟩, by simpa [World.setCell] using hHeld.2.1, bel_set (bel_set hHeld.2.2 (by omega)) (by omega)⟩
    clear hK K hHeld
    have hHeld := hHeld'
    clear hHeld'
    (try simp only [Act.put, List.getElem_toArray, List.getElem_cons_zero, List.getElem_cons_succ, List.setIfInBounds_toArray, List.set_cons_zero, List.set_cons_succ])
    have CC := set2_cells (v0 := Value.slice vow4 n vcw4) (v1 := Value.slice vow5 m vcw5) TH.out
    obtain ⟨C0, C1⟩ := CC
    have OO := own2_of C.out N.out NE.out
    have HZ : Hid (w.heap.size + 1 + 1 ≤ w5.heap.size ∧ Below w.heap.size w _) := ⟨by simpa [World.setCell] using hHeld.2.1, hHeld.2.2⟩
    have O9 : Hid _ := Own2.set (g := w.heap.size + 1) (o := 1) (u := Value.slice vow5 m vcw5) (Own2.set (g := w.heap.size + 1) (o := 0) (u := Value.slice vow4 n vcw4) OO (Or.inl (by omega))) (Or.inl (by omega))
    clear T0 T1 Z0 Z1 hHeld OO TH C N NE
    refine wpAnyH_done (by kernel_rfl) ?_ _
    go_wp2_with fail
    refine bodyPost_ret (v := .agg #[Value.slice vow4 n vcw4, Value.slice vow5 m vcw5]) (by simp [results, Tryd.results31, go_sem, *]) rfl ?_
    exact ⟨_, _, _, _, rfl, HZ.out.2, Own2.weak O9.out (by omega) (by simp)⟩
/-- What a call that answers a disk leaves. -/
def DQ (w : World) (rs ru : List ByteArray) (e : Ending) (w' : World) : Prop := ∃ p0 c0 p1 c1, e = .returned (.agg #[.slice p0 rs.length c0, .slice p1 ru.length c1]) ∧ Below w.heap.size w w' ∧ Own2 w' (.slice p0 rs.length c0) (.slice p1 ru.length c1) rs ru w.heap.size w'.heap.size
theorem l04Own_any (v0 v1 : Value) (ss us : List ByteArray) (w : World) (hn : ss.length ≤ 1048576) (hn' : us.length ≤ 1048577) (hr0 : RowV w v0 ss) (hs0 : RowV w v1 us) :
    Calls Tryd.prog 31 #[.agg #[v0, v1]] w (DQ w ss us) := by
  refine (l04Own_raw v0 v1 ss us w hn hn' hr0 hs0).mono ?_
  rintro e w' ⟨p0, c0, p1, c1, h, hb, hO⟩
  exact ⟨p0, c0, p1, c1, h, hb, hO⟩

/-- Two boxes of two cells, and a row of one's own beside them. -/
structure AI (w wr : World) (v0 v1 v : Value) (l : List ByteArray) : Prop where
  c0 : wr.cell? ⟨w.heap.size, 0, none⟩ = some v0
  c1 : wr.cell? ⟨w.heap.size, 1, none⟩ = some v1
  th : Th2 wr (w.heap.size + 1)
  tb : Th2 wr w.heap.size
  own : OwnT wr v l (w.heap.size + 1 + 1)
  size : w.heap.size + 1 + 1 ≤ wr.heap.size
  below : Below w.heap.size w wr
theorem AI.next {w wr wr' : World} {v0 v1 v : Value} {l : List ByteArray} (h : AI w wr v0 v1 v l) (hb : Below wr.heap.size wr wr') : AI w wr' v0 v1 v l :=
  ⟨cell_next hb h.c0 (cell_lt' h.c0), cell_next hb h.c1 (cell_lt' h.c1), h.th.next hb, h.tb.next hb, h.own.next hb, Nat.le_trans h.size hb.size, h.below.trans (hb.mono h.below.size)⟩
theorem AI.app {w wr wr' : World} {v0 v1 v v' : Value} {l l' : List ByteArray} (h : AI w wr v0 v1 v l) (hO : OwnT wr' v' l' (w.heap.size + 1 + 1)) (hg : Gro wr wr' v v') : AI w wr' v0 v1 v' l' :=
  ⟨h.own.cell hg h.c0 (by omega), h.own.cell hg h.c1 (by omega), h.th.gro h.own hg (by omega), h.tb.gro h.own hg (by omega), hO, Nat.le_trans h.size hg.size, h.own.below h.below (by omega) hg⟩
set_option maxHeartbeats 4000000 in
theorem l04Append_any (v0 v1 : Value) (ss us : List ByteArray) (t : ByteArray) (w : World) (ht : t.size ≤ 65536) (hn : ss.length ≤ 1048576) (hn' : us.length ≤ 1048576) (hr0 : RowV w v0 ss) (hs0 : RowV w v1 us) :
    Calls Tryd.prog 28 #[.agg #[v0, v1], .string t] w fun e w' => ∃ p c, e = .returned (.agg #[v0, .slice p (us.length + 1) c]) ∧ Below w.heap.size w w' ∧ RowV w' v0 ss ∧ RowV w' (.slice p (us.length + 1) c) (us ++ [sealS t]) := by
  have HRA : Hid (RowV w v0 ss) := hr0
  obtain ⟨ao, c0, rfl, _, hr0⟩ := hr0
  obtain ⟨bo, c1, rfl, _, hs0⟩ := hs0
  have RA : Hid (TRow w ao ss) := hr0
  have RU : Hid (TRow w bo us) := hs0
  obtain ⟨n, hn0⟩ : ∃ n, n = ss.length := ⟨_, rfl⟩
  obtain ⟨m, hm0⟩ : ∃ m, m = us.length := ⟨_, rfl⟩
  have HN : Hid (n = ss.length) := hn0
  have HM : Hid (m = us.length) := hm0
  rw [← hn0, ← hm0]
  rw [← hn0] at hn
  rw [← hm0] at hn'
  clear hn0 hm0 hr0 hs0
  have SE : Hid (∀ W : World, Calls Tryd.prog 36 #[.string t] W fun e w' => e = .returned (.string (sealS t)) ∧ Below W.heap.size W w') := fun W => specSeal_any t W (by omega)
  generalize sealS t = q at *
  have A0 : Hid (AI w (((w.alloc (.cells #[.slice ao n c0, .slice bo m c1] 25)).alloc (.cells #[.slice none 0 0, .slice none 0 0] 25)).alloc (.cells #[] 9)) (.slice ao n c0) (.slice bo m c1) (.slice (some ⟨w.heap.size + 1 + 1, 0, none⟩) 0 0) []) := by
    have h1 : Th2 ((w.alloc (.cells #[.slice ao n c0, .slice bo m c1] 25)).alloc (.cells #[.slice none 0 0, .slice none 0 0] 25)) (w.heap.size + 1) := by have := th2_new (W := (w.alloc (.cells #[.slice ao n c0, .slice bo m c1] 25))) (v0 := .slice none 0 0) (v1 := .slice none 0 0) (t := 25); simpa using this
    have h0 : Th2 ((w.alloc (.cells #[.slice ao n c0, .slice bo m c1] 25)).alloc (.cells #[.slice none 0 0, .slice none 0 0] 25)) w.heap.size := (th2_new (W := w) (v0 := .slice ao n c0) (v1 := .slice bo m c1) (t := 25)).next (bel_alloc _ _)
    have h2 := OwnT.new (W := ((w.alloc (.cells #[.slice ao n c0, .slice bo m c1] 25)).alloc (.cells #[.slice none 0 0, .slice none 0 0] 25))) (lo := w.heap.size + 1 + 1) (by simp)
    exact ⟨by go_simp, by go_simp, h1.next (bel_alloc _ _), h0.next (bel_alloc _ _), by simpa using h2, by simp, (((Below.refl _ _).alloc (Nat.le_refl _) _).alloc (by simp) _).alloc (by simp; omega) _⟩
  go_enter Tryd.func28, Tryd.ntmps28
  go_wp2_with (at_builtin; refine wpList_appT rfl (.tmp 5) (.tmp 7) rfl rfl (.slice (some ⟨w.heap.size + 1 + 1, 0, none⟩) 0 0) 0 [] (w.heap.size + 1 + 1) m rfl rfl A0.out.own A0.out.size bo m c1 us rfl HM.out (RU.out.next A0.out.below) (by omega) (by omega) ?_; intro vo1 vc1 w1 hO hg; have A1 : Hid _ := A0.out.app hO hg; clear hO hg)
  refine Calls.mono (SE.out _) ?_
  rintro e w2 ⟨rfl, hb⟩
  have A2 : Hid (AI w w2 (.slice ao n c0) (.slice bo m c1) (.slice vo1 m vc1) ([] ++ us)) := A1.out.next hb
  clear hb A0 A1
  have A3 : Hid (AI w (w2.alloc (.cells #[.string q] 9)) (.slice ao n c0) (.slice bo m c1) (.slice vo1 m vc1) ([] ++ us)) := A2.out.next (bel_alloc _ _)
  have R1 : Hid (TRow (w2.alloc (.cells #[.string q] 9)) (some ⟨w2.heap.size, 0, none⟩) [q]) := .inr ⟨w2.heap.size, 0, rfl, fun i hi => by
    have : i = 0 := by simpa using hi
    subst this
    go_simp⟩
  have hml : m = ([] ++ us).length := by simpa using HM.out
  have HML : Hid (m = ([] ++ us).length) := hml
  clear hml
  go_wp2_with (at_builtin; refine wpList_appT rfl (.tmp 8) (.tmp 11) rfl rfl (.slice vo1 m vc1) m ([] ++ us) (w.heap.size + 1 + 1) (m + 1) rfl HML.out A3.out.own A3.out.size (some ⟨w2.heap.size, 0, none⟩) 1 1 [q] rfl rfl R1.out (by omega) rfl ?_; intro vo4 vc4 w4 hO hg; have A4 : Hid _ := A3.out.app hO hg; clear hO hg; have f0 := A4.out.c0; have f1 := A4.out.c1; have g1 := A4.out.tb.f1; obtain ⟨⟨⟨u0, T0⟩, ⟨u1, T1⟩⟩, Z0, Z1⟩ := A4.out.th)
  have TH := A4.out.th
  have hz := A4.out.size
  have hc2 := cell_set (t := w.heap.size) (j := 1) (u := .slice vo4 (m + 1) vc4) T0 (by omega)
  have hc3 := cell_set (t := w.heap.size) (j := 1) (u := .slice vo4 (m + 1) vc4) T1 (by omega)
  have TB2 : Th2 (w4.setCell ⟨w.heap.size, 1, none⟩ (.slice vo4 (m + 1) vc4)) (w.heap.size + 1) := ⟨⟨⟨u0, hc2⟩, ⟨u1, hc3⟩⟩, by simpa using Z0, by simpa using Z1⟩
  have A5 : Hid _ := A4
  refine bodyPost_ret (v := .agg #[.slice ao n c0, .slice vo4 (m + 1) vc4]) (by simp [results, Tryd.results28, go_sem, set2_cells TB2, *]) rfl ?_
  have B9 : Below w.heap.size w (((w4.setCell ⟨w.heap.size, 1, none⟩ (.slice vo4 (m + 1) vc4)).setCell ⟨w.heap.size + 1, 0, none⟩ (.slice ao n c0)).setCell ⟨w.heap.size + 1, 1, none⟩ (.slice vo4 (m + 1) vc4)) := bel_set (bel_set (bel_set A5.out.below (by omega)) (by omega)) (by omega)
  refine ⟨vo4, vc4, rfl, B9, (by have h9 := HRA.out.next B9; rw [← HN.out] at h9; exact h9), ?_⟩
  · have hO := A5.out.own
    have hO2 : World.ownsRow (((w4.setCell ⟨w.heap.size, 1, none⟩ (.slice vo4 (m + 1) vc4)).setCell ⟨w.heap.size + 1, 0, none⟩ (.slice ao n c0)).setCell ⟨w.heap.size + 1, 1, none⟩ (.slice vo4 (m + 1) vc4)) 0 9 1 (.slice vo4 (m + 1) vc4) ([] ++ us ++ [q]).length (V ([] ++ us ++ [q])) :=
      own_set (own_set (own_set hO.own (fun e => by have := hO.ge _ e; omega)) (fun e => by have := hO.ge _ e; omega)) (fun e => by have := hO.ge _ e; omega)
    exact own_rowV hO2

set_option maxHeartbeats 4000000 in
theorem copyDisk_any (v0 v1 : Value) (ss us : List ByteArray) (w : World) (hn : ss.length ≤ 1048576) (hn' : us.length ≤ 1048576) (hr0 : RowV w v0 ss) (hs0 : RowV w v1 us) :
    Calls Tryd.prog 17 #[.agg #[v0, v1]] w (DQ w ss us) := by
  obtain ⟨ao, c0, rfl, _, hr0⟩ := hr0
  obtain ⟨bo, c1, rfl, _, hs0⟩ := hs0
  have RA : Hid (TRow w ao ss) := hr0
  have RU : Hid (TRow w bo us) := hs0
  obtain ⟨n, hn0⟩ : ∃ n, n = ss.length := ⟨_, rfl⟩
  obtain ⟨m, hm0⟩ : ∃ m, m = us.length := ⟨_, rfl⟩
  have HN : Hid (n = ss.length) := hn0
  have HM : Hid (m = us.length) := hm0
  have C1 : Hid (∀ W : World, TRow W ao ss → Calls Tryd.prog 18 #[.slice ao n c0, .slice none 0 0] W fun e w' => ∃ g, e = .returned (.slice (some ⟨g, 0, none⟩) n n) ∧ Below W.heap.size W w' ∧ W.heap.size ≤ g ∧ g < w'.heap.size ∧ w'.ownsRow 0 9 1 (.slice (some ⟨g, 0, none⟩) n n) n (V ss)) := fun W hW => by
    have := copyLines_any ao none c0 0 ss [] W hn (by simp) hW (.inl rfl)
    rw [List.append_nil] at this
    simpa [hn0] using this
  have C2 : Hid (∀ W : World, TRow W bo us → Calls Tryd.prog 18 #[.slice bo m c1, .slice none 0 0] W fun e w' => ∃ g, e = .returned (.slice (some ⟨g, 0, none⟩) m m) ∧ Below W.heap.size W w' ∧ W.heap.size ≤ g ∧ g < w'.heap.size ∧ w'.ownsRow 0 9 1 (.slice (some ⟨g, 0, none⟩) m m) m (V us)) := fun W hW => by
    have := copyLines_any bo none c1 0 us [] W hn' (by simp) hW (.inl rfl)
    rw [List.append_nil] at this
    simpa [hm0] using this
  rw [← hn0, ← hm0]
  rw [← hn0] at hn
  rw [← hm0] at hn'
  clear hn0 hm0 hr0 hs0
  have B0 : Hid (Below w.heap.size w ((w.alloc (.cells #[.slice ao n c0, .slice bo m c1] 25)).alloc (.cells #[.slice none 0 0, .slice none 0 0] 25))) := ((Below.refl _ _).alloc (Nat.le_refl _) _).alloc (by simp) _
  go_enter Tryd.func17, Tryd.ntmps17
  go_wp2
  refine wp_region_held_drew (S := (fun w' => (w'.cell? ⟨w.heap.size, 0, none⟩ = some (.slice ao n c0) ∧ w'.cell? ⟨w.heap.size, 1, none⟩ = some (.slice bo m c1)) ∧ (w.heap.size + 1 + 1) ≤ w'.heap.size ∧ Below w.heap.size w w')) (by kernel_rfl) ?_ (fun hHeld => ?_)
  · (try dsimp only)
    exact ⟨⟨by go_simp, by go_simp⟩, by simp, B0.out.drew⟩
  refine wpAnyH_take (i := 0) (v := ?_) rfl (by kernel_rfl) (by kernel_rfl) (by kernel_rfl) (fun _ _ _ h => h) (Or.inl ⟨by rfl, ?_⟩) (by assumption) ?_
  rotate_left
  · intro w' hSw
    (try dsimp only at hSw)
    go_simp
    all_goals (try with_reducible rfl)
  (try simp only [Act.put, List.getElem_toArray, List.getElem_cons_zero, List.getElem_cons_succ, List.setIfInBounds_toArray, List.set_cons_zero, List.set_cons_succ])
  refine wpAnyH_take (i := 1) (v := ?_) rfl (by kernel_rfl) (by kernel_rfl) (by kernel_rfl) (fun _ _ _ h => h) (Or.inl ⟨by rfl, ?_⟩) (by assumption) ?_
  rotate_left
  · intro w' hSw
    (try dsimp only at hSw)
    go_simp
    all_goals (try with_reducible rfl)
  (try simp only [Act.put, List.getElem_toArray, List.getElem_cons_zero, List.getElem_cons_succ, List.setIfInBounds_toArray, List.set_cons_zero, List.set_cons_succ])
  refine wpAnyH_take (i := 3) (v := ?_) rfl (by kernel_rfl) (by kernel_rfl) (by kernel_rfl) (fun _ _ _ h => h) (Or.inl ⟨by rfl, ?_⟩) (by assumption) ?_
  rotate_left
  · intro w' hSw
    (try dsimp only at hSw)
    go_simp
    all_goals (try with_reducible rfl)
  (try simp only [Act.put, List.getElem_toArray, List.getElem_cons_zero, List.getElem_cons_succ, List.setIfInBounds_toArray, List.set_cons_zero, List.set_cons_succ])
  refine wpAnyH_take (i := 4) (v := ?_) rfl (by kernel_rfl) (by kernel_rfl) (by kernel_rfl) (fun _ _ _ h => h) (Or.inl ⟨by rfl, ?_⟩) (by assumption) ?_
  rotate_left
  · intro w' hSw
    (try dsimp only at hSw)
    go_simp
    all_goals (try with_reducible rfl)
  (try simp only [Act.put, List.getElem_toArray, List.getElem_cons_zero, List.getElem_cons_succ, List.setIfInBounds_toArray, List.set_cons_zero, List.set_cons_succ])
  have TH : Hid (Th2 (((w.alloc (.cells #[.slice ao n c0, .slice bo m c1] 25)).alloc (.cells #[.slice none 0 0, .slice none 0 0] 25)).drew) (w.heap.size + 1)) := Th2.next (by have := th2_new (W := (w.alloc (.cells #[.slice ao n c0, .slice bo m c1] 25))) (v0 := .slice none 0 0) (v1 := .slice none 0 0) (t := 25); simpa using this) (bel_drew _)
  generalize ((w.alloc (.cells #[.slice ao n c0, .slice bo m c1] 25)).alloc (.cells #[.slice none 0 0, .slice none 0 0] 25)).drew = wd at *
  clear B0
  refine wpAnyH_ready (rs := [2]) (by kernel_rfl) (by simp) ?_
  refine AllReadyH.cons rfl (fun K hK => ?_) AllReadyH.nil
  (try simp only [Act.put, List.getElem_toArray, List.getElem_cons_zero, List.getElem_cons_succ, List.setIfInBounds_toArray, List.set_cons_zero, List.set_cons_succ])
  go_simp
  go_at_call 18
  refine Calls.mono (C1.out _ (RA.out.next hHeld.2.2)) ?_
  rintro e w2 ⟨g0, rfl, hb, hg, hG, hO⟩
  have hz0 := hHeld.2.1
  refine hK.out _ _ ?_ (fun hHeld' => ?_)
  · (try dsimp only)
    exact ⟨⟨cell_next hb hHeld.1.1 (cell_lt' hHeld.1.1), cell_next hb hHeld.1.2 (cell_lt' hHeld.1.2)⟩, Nat.le_trans hHeld.2.1 (hb).size, (bel_next (w := w) hHeld.2.2 hb).out⟩
  clear hK K hHeld
  have hHeld := hHeld'
  clear hHeld'
  (try simp only [Act.put, List.getElem_toArray, List.getElem_cons_zero, List.getElem_cons_succ, List.setIfInBounds_toArray, List.set_cons_zero, List.set_cons_succ])
  replace TH : Hid _ := TH.out.next hb
  have C : Hid (OwnT w2 (.slice (some ⟨g0, 0, none⟩) n n) ss (w.heap.size + 1 + 1)) := ⟨by rw [← HN.out]; exact hO, fun k hk => by simp [Value.ownBlock] at hk; omega⟩
  clear hb hg hG hO hz0
  refine wpAnyH_ready (rs := [5]) (by kernel_rfl) (by simp) ?_
  refine AllReadyH.cons rfl (fun K hK => ?_) AllReadyH.nil
  (try simp only [Act.put, List.getElem_toArray, List.getElem_cons_zero, List.getElem_cons_succ, List.setIfInBounds_toArray, List.set_cons_zero, List.set_cons_succ])
  go_simp
  go_at_call 18
  refine Calls.mono (C2.out _ (RU.out.next hHeld.2.2)) ?_
  rintro e w3 ⟨g7, rfl, hb, hg, hG, hO⟩
  have hz0 := hHeld.2.1
  have HC2 : Hid (OwnT w3 (.slice (some ⟨g0, 0, none⟩) n n) ss (w.heap.size + 1 + 1)) := C.out.next hb
  have NE : Hid (∀ k, (Value.slice (some ⟨g0, 0, none⟩) n n).ownBlock = some k → (Value.slice (some ⟨g7, 0, none⟩) m m).ownBlock ≠ some k) := fun k e e_ => by have h1 := (C.out.own.lt _ e).2; simp [Value.ownBlock] at e_; omega
  refine hK.out _ _ ?_ (fun hHeld' => ?_)
  · (try dsimp only)
    exact ⟨⟨cell_next hb hHeld.1.1 (cell_lt' hHeld.1.1), cell_next hb hHeld.1.2 (cell_lt' hHeld.1.2)⟩, Nat.le_trans hHeld.2.1 (hb).size, (bel_next (w := w) hHeld.2.2 hb).out⟩
  clear hK K hHeld
  have hHeld := hHeld'
  clear hHeld'
  (try simp only [Act.put, List.getElem_toArray, List.getElem_cons_zero, List.getElem_cons_succ, List.setIfInBounds_toArray, List.set_cons_zero, List.set_cons_succ])
  replace TH : Hid _ := TH.out.next hb
  have N : Hid (OwnT w3 (.slice (some ⟨g7, 0, none⟩) m m) us (w.heap.size + 1 + 1)) := ⟨by rw [← HM.out]; exact hO, fun k hk => by simp [Value.ownBlock] at hk; omega⟩
  clear hb hg hG hO hz0
  clear C
  have C := HC2
  clear HC2
  refine wpAnyH_take (i := 6) (v := ?_) rfl (by kernel_rfl) (by kernel_rfl) (by kernel_rfl) (fun _ _ _ h => h) (Or.inl ⟨by rfl, ?_⟩) (by assumption) ?_
  rotate_left
  · intro w' hSw
    (try dsimp only at hSw)
    go_simp
    all_goals (try with_reducible rfl)
  (try simp only [Act.put, List.getElem_toArray, List.getElem_cons_zero, List.getElem_cons_succ, List.setIfInBounds_toArray, List.set_cons_zero, List.set_cons_succ])
  obtain ⟨⟨⟨u0, T0⟩, ⟨u1, T1⟩⟩, Z0, Z1⟩ := TH.out
  refine wpAnyH_ready (rs := [7]) (by kernel_rfl) (by simp) ?_
  refine AllReadyH.cons rfl (fun K hK => ?_) AllReadyH.nil
  (try simp only [Act.put, List.getElem_toArray, List.getElem_cons_zero, List.getElem_cons_succ, List.setIfInBounds_toArray, List.set_cons_zero, List.set_cons_succ])
  go_simp
  (try simp only [])
  refine hK.out _ _ ?_ (fun hHeld' => ?_)
  · (try dsimp only)
    exact ⟨⟨cell_set (cell_set hHeld.1.1 (by omega)) (by omega), cell_set (cell_set hHeld.1.2 (by omega)) (by omega)⟩, by simpa [World.setCell] using hHeld.2.1, bel_set (bel_set hHeld.2.2 (by omega)) (by omega)⟩
  clear hK K hHeld
  have hHeld := hHeld'
  clear hHeld'
  (try simp only [Act.put, List.getElem_toArray, List.getElem_cons_zero, List.getElem_cons_succ, List.setIfInBounds_toArray, List.set_cons_zero, List.set_cons_succ])
  have CC := set2_cells (v0 := Value.slice (some ⟨g0, 0, none⟩) n n) (v1 := Value.slice (some ⟨g7, 0, none⟩) m m) TH.out
  obtain ⟨C0, C1'⟩ := CC
  have OO := own2_of C.out N.out NE.out
  have HZ : Hid (w.heap.size + 1 + 1 ≤ w3.heap.size ∧ Below w.heap.size w _) := ⟨by simpa [World.setCell] using hHeld.2.1, hHeld.2.2⟩
  have O9 : Hid _ := Own2.set (g := w.heap.size + 1) (o := 1) (u := Value.slice (some ⟨g7, 0, none⟩) m m) (Own2.set (g := w.heap.size + 1) (o := 0) (u := Value.slice (some ⟨g0, 0, none⟩) n n) OO (Or.inl (by omega))) (Or.inl (by omega))
  clear T0 T1 Z0 Z1 hHeld OO TH C N NE
  refine wpAnyH_done (by kernel_rfl) ?_ _
  go_wp2_with fail
  refine bodyPost_ret (v := .agg #[Value.slice (some ⟨g0, 0, none⟩) n n, Value.slice (some ⟨g7, 0, none⟩) m m]) (by simp [results, Tryd.results17, go_sem, *]) rfl ?_
  obtain rfl := HN.out
  obtain rfl := HM.out
  exact ⟨_, _, _, _, rfl, HZ.out.2, Own2.weak O9.out (by omega) (by simp)⟩

/-- What Append tells. -/
def apC (ss us : List ByteArray) (t : ByteArray) : Int := if 65536 < t.size then 2 else if 300 < ss.length + us.length then 1 else if ss.length + us.length = 300 then 7 else 0
def apS (ss us : List ByteArray) (t : ByteArray) : List ByteArray := if 65536 < t.size then [] else if 300 < ss.length + us.length then [] else ss
def apU (ss us : List ByteArray) (t : ByteArray) : List ByteArray := if 65536 < t.size then [] else if 300 < ss.length + us.length then [] else if ss.length + us.length = 300 then us else us ++ [sealS t]
section
variable {ss us : List ByteArray} {t : ByteArray}
theorem ap_long (h : 65536 < t.size) : apC ss us t = 2 ∧ apS ss us t = [] ∧ apU ss us t = [] := by unfold apC apS apU; rw [if_pos h, if_pos h, if_pos h]; exact ⟨rfl, rfl, rfl⟩
theorem ap_bad (h : ¬ 65536 < t.size) (h1 : 300 < ss.length + us.length) : apC ss us t = 1 ∧ apS ss us t = [] ∧ apU ss us t = [] := by unfold apC apS apU; rw [if_neg h, if_neg h, if_neg h, if_pos h1, if_pos h1, if_pos h1]; exact ⟨rfl, rfl, rfl⟩
theorem ap_full (h : ¬ 65536 < t.size) (h1 : ss.length + us.length = 300) : apC ss us t = 7 ∧ apS ss us t = ss ∧ apU ss us t = us := by
  have k1 : ¬ 300 < ss.length + us.length := by omega
  unfold apC apS apU
  simp only [h, k1, h1, if_true, if_false]
  refine ⟨?_, ?_, ?_⟩ <;> trivial
theorem ap_ok (h : ¬ 65536 < t.size) (h1 : ss.length + us.length < 300) : apC ss us t = 0 ∧ apS ss us t = ss ∧ apU ss us t = us ++ [sealS t] := by
  have k1 : ¬ 300 < ss.length + us.length := by omega
  have k2 : ¬ ss.length + us.length = 300 := by omega
  unfold apC apS apU
  simp only [h, k1, k2, if_false]
  refine ⟨?_, ?_, ?_⟩ <;> trivial
theorem ap_len : (apS ss us t).length ≤ 300 ∧ (apU ss us t).length ≤ 301 := by
  unfold apS apU
  split
  · simp
  · split
    · simp
    · split
      · exact ⟨by omega, by omega⟩
      · exact ⟨by omega, by simp; omega⟩
end
end Go.Proofs.YthblnifapkfbcaaDoor

/- The law of DiskOK. -/
import Derived.Test.YtkoacbafejjggaaRows
import Derived.WalkKit
import Derived.WalkSpells
import Derived.WalkLawsBesides
import Derived.Deep.QuietTactic
import Derived.BigQuiet
import Derived.Deep.RegionHeld3
import Derived.Test.YtkoacbafejjggaaDk
import Derived.LoopN
namespace Go.Proofs.Ytkoacbafejjggaa
open Go.RowKit
set_option linter.unusedSimpArgs false
set_option linter.unusedVariables false

/-- A disk's two cells in its box. -/
def Cb (W : World) (g : Nat) (v0 v1 : Value) : Prop := W.cell? ⟨g, 0, none⟩ = some v0 ∧ W.cell? ⟨g, 1, none⟩ = some v1
theorem cb_next {W W' : World} {g : Nat} {v0 v1 : Value} (h : Hid (Cb W g v0 v1)) (hb : Below W.heap.size W W') (hl : Hid (g < W.heap.size)) : Hid (Cb W' g v0 v1) := ⟨cell_next hb h.out.1 hl.out, cell_next hb h.out.2 hl.out⟩
theorem box_new {W : World} {v0 v1 : Value} {t : TypeId} : Hid (Cb (W.alloc (.cells #[v0, v1] t)) W.heap.size v0 v1) := by
  refine ⟨?_, ?_⟩ <;> go_simp
theorem box_alloc {W : World} {g o : Nat} {v : Value} {b : Obj} (h : W.cell? ⟨g, o, none⟩ = some v) (hl : g < W.heap.size) : (W.alloc b).cell? ⟨g, o, none⟩ = some v := cell_next (bel_alloc _ _) h hl
theorem o2_next {W W' : World} {v0 v1 : Value} {rs ru : List ByteArray} {lo hi : Nat} (h : Hid (Own2 W v0 v1 rs ru lo hi)) (hb : Below W.heap.size W W') : Hid (Own2 W' v0 v1 rs ru lo hi) := h.out.next hb
theorem own_slice {W : World} {e n : Nat} {v : Value} {xs : List Value} (h : W.ownsRow 0 e 1 v n xs) : ∃ ao cap, v = .slice ao n cap := by
  rcases h.2 with ⟨rfl, hn⟩ | ⟨g, cap', cur, rfl, _⟩
  · exact ⟨none, 0, by rw [hn]⟩
  · exact ⟨_, _, rfl⟩
theorem sz_hid {W W' : World} {n : Nat} (hb : Below n W W') : Hid (W.heap.size ≤ W'.heap.size) := hb.size
theorem sz_alloc {W : World} {o : Obj} : Hid (W.heap.size + 1 ≤ (W.alloc o).heap.size) := by show _ ≤ _; simp

set_option maxHeartbeats 4000000 in
theorem law_diskOK (a0 a1 : Value) (ss us : List ByteArray) (w : World) (hm : ss.length ≤ maxLen) (hm' : us.length ≤ maxLen) (hw : ∀ s ∈ ss, s.size ≤ maxLen) (hw' : ∀ s ∈ us, s.size ≤ maxLen) (hr0 : RowV w a0 ss) (hs0 : RowV w a1 us) :
    Calls Try.prog 3 #[.agg #[a0, a1]] w fun e w' => e = .returned (.bool true) ∧ Below w.heap.size w w' := by
  have RA : Hid (RowV w a0 ss) := hr0
  have RU : Hid (RowV w a1 us) := hs0
  clear hr0 hs0
  have HW : Hid ((∀ s ∈ ss, s.size ≤ maxLen) ∧ (∀ s ∈ us, s.size ≤ maxLen)) := ⟨hw, hw'⟩
  clear hw hw'
  go_enter Try.func3, Try.ntmps3
  go_wp2_with fail
  have HB : Hid (Below w.heap.size w _) := bel_alloc w (.cells #[a0, a1] 24)
  have BA := box_new (W := w) (v0 := a0) (v1 := a1) (t := 24)
  have LA := lt_new (W := w) (o := .cells #[a0, a1] 24)
  refine (szDisk_any a0 a1 ss us 1048576 _ (by omega) (by omega) hm hm' HW.out.1 HW.out.2 (RA.out.next HB.out) (RU.out.next HB.out)).mono ?_
  rintro e w1 ⟨rfl, hb⟩
  replace BA := cb_next BA hb LA
  replace LA := lt_next LA hb
  replace HB := bel_next HB hb
  clear hb
  obtain ⟨z, hz⟩ : ∃ z, z = szD ss us 1048576 := ⟨_, rfl⟩
  rw [← hz]
  by_cases h0 : z < 0
  · go_wp2
    go_ret
    exact ⟨rfl, HB.out⟩
  have hle := szD_ok (by rw [← hz]; exact h0)
  clear hz
  have hn : ss.length ≤ 1048576 := by omega
  have hn' : us.length ≤ 1048576 := by omega
  obtain ⟨bA0, bA1⟩ := BA.out
  go_wp2_with fail
  clear bA0 bA1
  refine (toDisk_any a0 a1 ss us _ hn hn' (RA.out.next HB.out) (RU.out.next HB.out)).mono ?_
  rintro e w2 ⟨y0, y1, rfl, hb, hO⟩
  obtain ⟨yp, yc, rfl⟩ := own_slice hO.r0
  obtain ⟨yq, yd, rfl⟩ := own_slice hO.r1
  replace BA := cb_next BA hb LA
  replace LA := lt_next LA hb
  replace HB := bel_next HB hb
  have EY : Hid (Own2 w2 _ _ ss us _ _) := hO
  clear hb hO
  go_wp2_with fail
  refine (specOK_any _ _ ss us _ hn hn' (own_rowV EY.out.r0) (own_rowV EY.out.r1)).mono ?_
  rintro e w3 ⟨rfl, hb⟩
  replace BA := cb_next BA hb LA
  replace LA := lt_next LA hb
  replace EY := o2_next EY hb
  replace HB := bel_next HB hb
  clear hb EY
  obtain ⟨k, hk⟩ : ∃ k : Bool, k = decide (ss.length + us.length ≤ 300) := ⟨_, rfl⟩
  rw [← hk]
  have HK : Hid (k = decide (ss.length + us.length ≤ 300)) := hk
  clear hk
  obtain ⟨bA0, bA1⟩ := BA.out
  go_wp2_with fail
  clear bA0 bA1
  refine (toDisk_any a0 a1 ss us _ hn hn' (RA.out.next HB.out) (RU.out.next HB.out)).mono ?_
  rintro e w4 ⟨x0, x1, rfl, hb, hO⟩
  obtain ⟨xp, xc, rfl⟩ := own_slice hO.r0
  obtain ⟨xq, xd, rfl⟩ := own_slice hO.r1
  replace BA := cb_next BA hb LA
  replace LA := lt_next LA hb
  replace HB := bel_next HB hb
  have Ex : Hid (Own2 w4 _ _ ss us w3.heap.size w4.heap.size) := hO
  clear hb hO
  go_wp2_with fail
  refine (implOK_any _ _ ss us _ hn hn' (own_rowV (o2_next Ex (bel_alloc _ _)).out.r0) (own_rowV (o2_next Ex (bel_alloc _ _)).out.r1)).mono ?_
  rintro e w5 ⟨rfl, hb⟩
  have Bx := cb_next box_new hb lt_new
  have Lx := lt_next lt_new hb
  replace BA := cb_next (cb_next BA (bel_alloc _ _) LA) hb (lt_next LA (bel_alloc _ _))
  replace LA := lt_next (lt_next LA (bel_alloc _ _)) hb
  replace Ex := o2_next (o2_next Ex (bel_alloc _ _)) hb
  replace HB := bel_next (bel_next HB (bel_alloc _ _)) hb
  clear hb
  rw [← HK.out]
  go_wp2_with fail
  refine wp_region_held_drew (S := (fun w' => (w'.cell? ⟨w.heap.size, 0, none⟩ = some (a0) ∧ w'.cell? ⟨w.heap.size, 1, none⟩ = some (a1)) ∧ (w'.cell? ⟨w4.heap.size, 0, none⟩ = some ((.slice xp ss.length xc)) ∧ w'.cell? ⟨w4.heap.size, 1, none⟩ = some ((.slice xq us.length xd))) ∧ (w.heap.size < w'.heap.size) ∧ (w4.heap.size < w'.heap.size) ∧ Own2 w' (.slice xp ss.length xc) (.slice xq us.length xd) ss us w3.heap.size w4.heap.size ∧ Below w.heap.size w w')) (by kernel_rfl) ?_ (fun hHeld => ?_)
  · (try dsimp only)
    exact ⟨(cb_next BA (bel_drew _) LA).out, (cb_next Bx (bel_drew _) Lx).out, (lt_next LA (bel_drew _)).out, (lt_next Lx (bel_drew _)).out, (o2_next Ex (bel_drew _)).out, (bel_next HB (bel_drew _)).out⟩
  refine wpAnyH_take (i := 0) (v := ?_) rfl (by kernel_rfl) (by kernel_rfl) (by kernel_rfl) (fun _ _ _ h => h) (Or.inl ⟨by rfl, ?_⟩) (by assumption) ?_
  rotate_left
  · intro w' hSw
    (try dsimp only at hSw)
    go_simp
    all_goals (try with_reducible rfl)
  (try simp only [Act.put, List.getElem_toArray, List.getElem_cons_zero, List.getElem_cons_succ, List.setIfInBounds_toArray, List.set_cons_zero, List.set_cons_succ])
  refine wpAnyH_take (i := 1) (v := ?_) rfl (by kernel_rfl) (by kernel_rfl) (by kernel_rfl) (fun _ _ _ h => h) (Or.inl ⟨by rfl, ?_⟩) (by assumption) ?_
  rotate_left
  · intro w' hSw
    (try dsimp only at hSw)
    go_simp
    all_goals (try with_reducible rfl)
  (try simp only [Act.put, List.getElem_toArray, List.getElem_cons_zero, List.getElem_cons_succ, List.setIfInBounds_toArray, List.set_cons_zero, List.set_cons_succ])
  refine wpAnyH_ready (rs := [2]) (by kernel_rfl) (by simp) ?_
  refine AllReadyH.cons rfl (fun K hK => ?_) AllReadyH.nil
  (try simp only [Act.put, List.getElem_toArray, List.getElem_cons_zero, List.getElem_cons_succ, List.setIfInBounds_toArray, List.set_cons_zero, List.set_cons_succ])
  go_simp
  (go_at_call 9; refine (toDisk_any a0 a1 ss us _ hn hn' (RA.out.next hHeld.2.2.2.2.2) (RU.out.next hHeld.2.2.2.2.2)).mono ?_; rintro e w6 ⟨t0, t1, rfl, hb, hO⟩; have ET : Hid (Own2 w6 t0 t1 ss us _ _) := hO; clear hO)
  (try simp only [])
  refine hK.out _ _ ?_ (fun hHeld' => ?_)
  · (try dsimp only)
    exact ⟨cb_next hHeld.1 hb hHeld.2.2.1, cb_next hHeld.2.1 hb hHeld.2.2.2.1, lt_next hHeld.2.2.1 hb, lt_next hHeld.2.2.2.1 hb, o2_next hHeld.2.2.2.2.1 hb, bel_next hHeld.2.2.2.2.2 hb⟩
  clear hK K
  clear hHeld
  have hHeld := hHeld'
  clear hHeld'
  clear hb
  (try simp only [Act.put, List.getElem_toArray, List.getElem_cons_zero, List.getElem_cons_succ, List.setIfInBounds_toArray, List.set_cons_zero, List.set_cons_succ])
  refine wpAnyH_ready (rs := [3]) (by kernel_rfl) (by simp) ?_
  refine AllReadyH.cons rfl (fun K hK => ?_) AllReadyH.nil
  (try simp only [Act.put, List.getElem_toArray, List.getElem_cons_zero, List.getElem_cons_succ, List.setIfInBounds_toArray, List.set_cons_zero, List.set_cons_succ])
  go_simp
  (go_at_call 11; refine (eqDisk_same (.slice xp ss.length xc) (.slice xq us.length xd) t0 t1 ss us _ hn hn' (own_rowV hHeld.2.2.2.2.1.r0) (own_rowV hHeld.2.2.2.2.1.r1) (own_rowV ET.out.r0) (own_rowV ET.out.r1)).mono ?_; rintro e w7 ⟨rfl, hb⟩)
  (try simp only [])
  refine hK.out _ _ ?_ (fun hHeld' => ?_)
  · (try dsimp only)
    exact ⟨cb_next hHeld.1 hb hHeld.2.2.1, cb_next hHeld.2.1 hb hHeld.2.2.2.1, lt_next hHeld.2.2.1 hb, lt_next hHeld.2.2.2.1 hb, o2_next hHeld.2.2.2.2.1 hb, bel_next hHeld.2.2.2.2.2 hb⟩
  clear hK K
  clear hHeld
  have hHeld := hHeld'
  clear hHeld'
  clear hb
  (try simp only [Act.put, List.getElem_toArray, List.getElem_cons_zero, List.getElem_cons_succ, List.setIfInBounds_toArray, List.set_cons_zero, List.set_cons_succ])
  refine wpAnyH_take (i := 4) (v := ?_) rfl (by kernel_rfl) (by kernel_rfl) (by kernel_rfl) (fun _ _ _ h => h) (Or.inl ⟨by rfl, ?_⟩) (by assumption) ?_
  rotate_left
  · intro w' hSw
    (try dsimp only at hSw)
    go_simp
    all_goals (try with_reducible rfl)
  (try simp only [Act.put, List.getElem_toArray, List.getElem_cons_zero, List.getElem_cons_succ, List.setIfInBounds_toArray, List.set_cons_zero, List.set_cons_succ])
  refine wpAnyH_done (by kernel_rfl) ?_ _
  replace BA : Hid _ := hHeld.1
  replace Bx : Hid _ := hHeld.2.1
  replace LA : Hid _ := hHeld.2.2.1
  replace Lx : Hid _ := hHeld.2.2.2.1
  replace Ex : Hid _ := hHeld.2.2.2.2.1
  replace HB : Hid _ := hHeld.2.2.2.2.2
  clear hHeld
  clear ET
  clear Bx Lx Ex BA LA
  go_wp2
  go_ret
  exact ⟨rfl, HB.out⟩
end Go.Proofs.Ytkoacbafejjggaa

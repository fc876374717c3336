/- The law of LiveValues. -/
import Derived.Test.YtmbjjinibnonoaaRows
import Derived.WalkKit
import Derived.WalkSpells
import Derived.WalkLawsBesides
import Derived.Deep.QuietTactic
import Derived.BigQuiet
import Derived.Deep.RegionHeld3
import Derived.Test.YtmbjjinibnonoaaLv
import Derived.LoopN
namespace Go.Proofs.Ytmbjjinibnonoaa
open Go.RowKit
set_option linter.unusedSimpArgs false
set_option linter.unusedVariables false

theorem live_wrap {F : Nat} {args : Array Value} {w : World} {l : List Sib} {ys : List Int} {k0 : Bool} {code : Int} (h : Calls Try.prog F args w fun e w' => ∃ v, e = .returned (.tuple #[v, .int .i64 (if k0 then 0 else 1)]) ∧ Gro w w' (.slice none 0 0) v ∧ w'.ownsRow 0 3 1 v (live (if k0 then l else [])).length ((live (if k0 then l else [])).map (Value.int .i64))) (hz : Hid (ys = live (if k0 then l else []))) (hc : Hid (code = if k0 then 0 else 1)) :
    Calls Try.prog F args w fun e w' => ∃ ao' cap', e = .returned (.tuple #[.slice ao' ys.length cap', .int .i64 code]) ∧ Below w.heap.size w w' ∧ Hid (w'.ownsRow 0 3 1 (.slice ao' ys.length cap') ys.length (ys.map (Value.int .i64))) ∧ Hid (∀ k, Value.ownBlock (.slice ao' ys.length cap') = some k → w.heap.size ≤ k ∧ k < w'.heap.size) := by
  refine h.mono ?_
  rintro e w' ⟨v, rfl, hg, ho⟩
  rw [← hz.out] at ho
  rw [← hc.out]
  obtain ⟨ao', cap', rfl⟩ : ∃ ao' cap', v = .slice ao' ys.length cap' := by
    rcases ho.2 with ⟨rfl, hn⟩ | ⟨g, cap', cur, rfl, _⟩
    · exact ⟨none, 0, by rw [hn]⟩
    · exact ⟨_, cap', rfl⟩
  refine ⟨ao', cap', rfl, hg.below (Nat.le_refl _) (fun k hk => by simp [Value.ownBlock] at hk), ho, fun k hk => ⟨?_, (ho.lt k hk).2⟩⟩
  rcases hg.fresh k hk with h' | h'
  · simp [Value.ownBlock] at h'
  · exact h'
set_option maxHeartbeats 8000000 in
theorem law_live_small (cap : Nat) (ao : Option Addr) (l : List Sib) (a b c : Int) (w : World) (hl : l.length ≤ 1048576) (hr0 : SibRow w ao l) :
    Calls Try.prog 4 #[.agg #[.slice ao l.length cap, .int .i64 a, .int .i64 b, .int .i64 c]] w fun e w' => e = .returned (.bool true) ∧ Below w.heap.size w w' := by
  obtain ⟨k0, hO⟩ : ∃ r : Bool, Hid (r = true ↔ OkP l a b c) := by
    by_cases h : OkP l a b c
    · exact ⟨true, ⟨fun _ => h, fun _ => rfl⟩⟩
    · exact ⟨false, ⟨fun h' => (by cases h'), fun h' => (h h').elim⟩⟩
  obtain ⟨zs, hz⟩ : ∃ zs : List Int, Hid (zs = live (if k0 then l else [])) := ⟨_, rfl⟩
  obtain ⟨code, hc⟩ : ∃ code : Int, Hid (code = if k0 then 0 else 1) := ⟨_, rfl⟩
  have hzl : (zs.length : Int) ≤ 1048576 := by
    have h1 := live_len (if k0 then l else [])
    have h2 : (if k0 then l else []).length ≤ l.length := by split <;> simp
    have h3 := hz.out
    rw [h3]
    omega
  have hm : (l.length : Int) ≤ 1048576 := by omega
  have R0 : Hid (SibRow w ao l) := hr0
  have HB : Hid (Below w.heap.size w w) := Below.refl _ _
  have hif : (if (l.length : Int) ≤ 1048576 then 1048576 - (l.length : Int) else -1) = 1048576 - (l.length : Int) := if_pos hm
  have hng : ¬ 1048576 - (l.length : Int) < 0 := by omega
  have hng2 : ¬ 1 + 4 * (l.length : Int) < 0 := by omega
  have hng3 : ¬ 1 + (zs.length : Int) < 0 := by omega
  clear hr0
  go_enter Try.func4, Try.ntmps4
  go_wp2_with fail
  refine (szObj_any cap ao l a b c 1048576 _ (by omega) (by omega) (by omega)).mono ?_
  rintro e w1 ⟨rfl, hb⟩
  have BA := c4_next box_new hb lt_new
  have LA := lt_next (lt_new) hb
  replace HB := bel_next (bel_next HB (bel_alloc _ _)) hb
  clear hb
  rw [hif]
  obtain ⟨bA0, bA1, bA2, bA3⟩ := BA.out
  go_wp2_with fail
  clear bA0 bA1 bA2 bA3
  refine (toObj_any cap ao l a b c _ hm (row_at R0 HB)).mono ?_
  rintro e w2 ⟨g1, rfl, hb, hg, hG, hT, hS⟩
  replace BA := c4_next BA hb LA
  replace LA := lt_next LA hb
  replace HB := bel_next HB hb
  have R1 := row_of_at hS
  clear hb hg hG hT hS
  go_wp2_with fail
  refine (live_wrap (specLive_any l.length _ l a b c k0 hO _ hm R1.out) hz hc).mono ?_
  rintro e w3 ⟨aw, cw, rfl, hb, OW, FW⟩
  have HW : Hid (∀ k, Value.ownBlock (.slice aw zs.length cw) = some k → w.heap.size < k ∧ k < w3.heap.size) := fun k hk => ⟨Nat.lt_of_lt_of_le LA.out (FW.out k hk).1, (FW.out k hk).2⟩
  replace BA := c4_next BA hb LA
  replace LA := lt_next LA hb
  replace HB := bel_next HB hb
  clear hb FW R1
  obtain ⟨bA0, bA1, bA2, bA3⟩ := BA.out
  go_wp2_with fail
  clear bA0 bA1 bA2 bA3
  refine (toObj_any cap ao l a b c _ hm (row_at R0 HB)).mono ?_
  rintro e w4 ⟨gx, rfl, hb, hg, hG, hT, hS⟩
  have HX : Hid (w.heap.size < gx ∧ w3.heap.size ≤ gx ∧ gx < w4.heap.size) := ⟨Nat.lt_of_lt_of_le LA.out hg, hg, hG⟩
  replace BA := c4_next BA hb LA
  replace LA := lt_next LA hb
  replace HB := bel_next HB hb
  replace OW := own_hnext OW hb
  have RxA := row_of_at hS
  have TX : Hid (There w4 gx (l.length * 4)) := hT
  have LX : Hid (gx < w4.heap.size) := hG
  clear hb hg hG hT hS
  go_wp2_with fail
  refine (live_wrap (implLive_any l.length _ l a b c k0 hO _ hm (row_next RxA (bel_alloc _ _)).out) hz hc).mono ?_
  rintro e w5 ⟨ag, cg, rfl, hb, OG, FG⟩
  have HG : Hid (∀ k, Value.ownBlock (.slice ag zs.length cg) = some k → w4.heap.size < k) := fun k hk => Nat.lt_of_lt_of_le (by simp) (FG.out k hk).1
  have BxA := c4_next box_new hb lt_new
  have LxA := lt_next lt_new hb
  replace TX := th_next (th_next TX (bel_alloc _ _) LX) hb (lt_next LX (bel_alloc _ _))
  replace LX := lt_next (lt_next LX (bel_alloc _ _)) hb
  replace BA := c4_next (c4_next BA (bel_alloc _ _) LA) hb (lt_next LA (bel_alloc _ _))
  replace LA := lt_next (lt_next LA (bel_alloc _ _)) hb
  replace RxA := row_next (row_next RxA (bel_alloc _ _)) hb
  replace HB := bel_next (bel_next HB (bel_alloc _ _)) hb
  replace OW := own_hnext (own_hnext OW (bel_alloc _ _)) hb
  clear hb FG
  go_wp2_with fail
  refine (eqInts_same cg cw zs.length ag aw zs _ rfl hzl (owned_ints OG.out rfl) (owned_ints OW.out rfl)).mono ?_
  rintro e w6 ⟨rfl, hb⟩
  replace TX := th_next TX hb LX
  replace LX := lt_next LX hb
  replace BA := c4_next BA hb LA
  replace BxA := c4_next BxA hb LxA
  replace LA := lt_next LA hb
  replace LxA := lt_next LxA hb
  replace RxA := row_next RxA hb
  replace HB := bel_next HB hb
  replace OW := own_hnext OW hb
  replace OG := own_hnext OG hb
  clear hb
  go_wp2_with fail
  refine wp_region_held_drew (S := (fun w' => (w'.cell? ⟨w.heap.size, 0, none⟩ = some (Value.slice ao l.length cap) ∧ w'.cell? ⟨w.heap.size, 1, none⟩ = some (.int .i64 a) ∧ w'.cell? ⟨w.heap.size, 2, none⟩ = some (.int .i64 b) ∧ w'.cell? ⟨w.heap.size, 3, none⟩ = some (.int .i64 c)) ∧ (w'.cell? ⟨w4.heap.size, 0, none⟩ = some (Value.slice (some ⟨gx, 0, none⟩) l.length l.length) ∧ w'.cell? ⟨w4.heap.size, 1, none⟩ = some (.int .i64 a) ∧ w'.cell? ⟨w4.heap.size, 2, none⟩ = some (.int .i64 b) ∧ w'.cell? ⟨w4.heap.size, 3, none⟩ = some (.int .i64 c)) ∧ (w.heap.size < w'.heap.size) ∧ (w4.heap.size < w'.heap.size) ∧ SibRow w' (some ⟨gx, 0, none⟩) l ∧ Below w.heap.size w w' ∧ Below w6.heap.size w6 w')) (by kernel_rfl) ?_ (fun hHeld => ?_)
  · (try dsimp only)
    exact ⟨BA.out, BxA.out, LA.out, LxA.out, RxA.out, (bel_next HB (bel_drew _)).out, bel_drew _⟩
  refine wpAnyH_take (i := 0) (v := ?_) rfl (by kernel_rfl) (by kernel_rfl) (by kernel_rfl) (fun _ _ _ h => h) (Or.inl ⟨by rfl, ?_⟩) (by assumption) ?_
  rotate_left
  · intro w' hSw
    (try dsimp only at hSw)
    go_simp
    all_goals (try with_reducible rfl)
  (try simp only [Act.put, List.getElem_toArray, List.getElem_cons_zero, List.getElem_cons_succ, List.setIfInBounds_toArray, List.set_cons_zero, List.set_cons_succ])
  refine wpAnyH_take (i := 1) (v := ?_) rfl (by kernel_rfl) (by kernel_rfl) (by kernel_rfl) (fun _ _ _ h => h) (Or.inl ⟨by rfl, ?_⟩) (by assumption) ?_
  rotate_left
  · intro w' hSw
    (try dsimp only at hSw)
    go_simp
    all_goals (try with_reducible rfl)
  (try simp only [Act.put, List.getElem_toArray, List.getElem_cons_zero, List.getElem_cons_succ, List.setIfInBounds_toArray, List.set_cons_zero, List.set_cons_succ])
  refine wpAnyH_ready (rs := [2]) (by kernel_rfl) (by simp) ?_
  refine AllReadyH.cons rfl (fun K hK => ?_) AllReadyH.nil
  (try simp only [Act.put, List.getElem_toArray, List.getElem_cons_zero, List.getElem_cons_succ, List.setIfInBounds_toArray, List.set_cons_zero, List.set_cons_succ])
  go_simp
  (go_at_call 7; refine (toObj_any cap ao l a b c _ hm (row_at R0 hHeld.2.2.2.2.2.1)).mono ?_; rintro e w7 ⟨g9, rfl, hb, hg, hG, hT, hS⟩; have RT := row_of_at hS; clear hg hG hT hS)
  (try simp only [])
  refine hK.out _ _ ?_ (fun hHeld' => ?_)
  · (try dsimp only)
    exact ⟨c4_next hHeld.1 hb hHeld.2.2.1, c4_next hHeld.2.1 hb hHeld.2.2.2.1, lt_next hHeld.2.2.1 hb, lt_next hHeld.2.2.2.1 hb, row_next hHeld.2.2.2.2.1 hb, bel_next hHeld.2.2.2.2.2.1 hb, (bel_next (w := w6) hHeld.2.2.2.2.2.2 hb).out⟩
  clear hK K
  clear hHeld
  have hHeld := hHeld'
  clear hHeld'
  clear hb
  (try simp only [Act.put, List.getElem_toArray, List.getElem_cons_zero, List.getElem_cons_succ, List.setIfInBounds_toArray, List.set_cons_zero, List.set_cons_succ])
  refine wpAnyH_ready (rs := [3]) (by kernel_rfl) (by simp) ?_
  refine AllReadyH.cons rfl (fun K hK => ?_) AllReadyH.nil
  (try simp only [Act.put, List.getElem_toArray, List.getElem_cons_zero, List.getElem_cons_succ, List.setIfInBounds_toArray, List.set_cons_zero, List.set_cons_succ])
  go_simp
  (go_at_call 10; refine (eqObj_same l.length l.length _ _ l a b c _ hm hHeld.2.2.2.2.1 RT.out).mono ?_; rintro e w8 ⟨rfl, hb⟩)
  (try simp only [])
  refine hK.out _ _ ?_ (fun hHeld' => ?_)
  · (try dsimp only)
    exact ⟨c4_next hHeld.1 hb hHeld.2.2.1, c4_next hHeld.2.1 hb hHeld.2.2.2.1, lt_next hHeld.2.2.1 hb, lt_next hHeld.2.2.2.1 hb, row_next hHeld.2.2.2.2.1 hb, bel_next hHeld.2.2.2.2.2.1 hb, (bel_next (w := w6) hHeld.2.2.2.2.2.2 hb).out⟩
  clear hK K
  clear hHeld
  have hHeld := hHeld'
  clear hHeld'
  clear hb
  (try simp only [Act.put, List.getElem_toArray, List.getElem_cons_zero, List.getElem_cons_succ, List.setIfInBounds_toArray, List.set_cons_zero, List.set_cons_succ])
  refine wpAnyH_take (i := 4) (v := ?_) rfl (by kernel_rfl) (by kernel_rfl) (by kernel_rfl) (fun _ _ _ h => h) (Or.inl ⟨by rfl, ?_⟩) (by assumption) ?_
  rotate_left
  · intro w' hSw
    (try dsimp only at hSw)
    go_simp
    all_goals (try with_reducible rfl)
  (try simp only [Act.put, List.getElem_toArray, List.getElem_cons_zero, List.getElem_cons_succ, List.setIfInBounds_toArray, List.set_cons_zero, List.set_cons_succ])
  refine wpAnyH_done (by kernel_rfl) ?_ _
  replace BA : Hid _ := hHeld.1
  replace BxA : Hid _ := hHeld.2.1
  replace LA : Hid _ := hHeld.2.2.1
  replace LxA : Hid _ := hHeld.2.2.2.1
  replace RxA : Hid _ := hHeld.2.2.2.2.1
  replace HB : Hid _ := hHeld.2.2.2.2.2.1
  have hb := hHeld.2.2.2.2.2.2
  clear hHeld
  clear RT
  replace OW := own_hnext OW hb
  replace OG := own_hnext OG hb
  replace TX := th_next TX hb LX
  replace LX := lt_next LX hb
  clear hb RxA
  obtain ⟨bxA0, bxA1, bxA2, bxA3⟩ := BxA.out
  go_wp2_with fail
  clear bxA0 bxA1 bxA2 bxA3
  refine (markObj_any gx l.length l.length a b c 1 _ (by omega) (by omega) (by omega) LX.out TX.out).mono ?_
  rintro e w9 ⟨rfl, hg⟩
  replace BA := c4_mark BA hg (fun e => by cases e; have := HX.out; omega)
  replace LA := lt_mark LA hg
  replace OW := own_mark OW hg (fun k hk e => by cases e; have := HX.out; have := HW.out _ hk; omega)
  replace OG := own_mark OG hg (fun k hk e => by cases e; have := HX.out; have := HG.out _ hk; omega)
  replace HB := bel_mark HB hg (fun k hk => by cases hk; have := HX.out; omega)
  clear hg TX LX BxA LxA
  go_wp2_with fail
  refine (eqInts_same cg cw zs.length ag aw zs _ rfl hzl (owned_ints OG.out rfl) (owned_ints OW.out rfl)).mono ?_
  rintro e w10 ⟨rfl, hb⟩
  replace BA := c4_next BA hb LA
  replace LA := lt_next LA hb
  replace HB := bel_next HB hb
  replace OW := own_hnext OW hb
  replace OG := own_hnext OG hb
  clear hb
  go_wp2_with fail
  refine (markInts_any cg zs.length ag 1 _ _ (by omega) (by omega) (by omega) OG.out).mono ?_
  rintro e w11 ⟨rfl, hg, og⟩
  replace OG : Hid _ := og
  replace BA := c4_mark BA hg (fun e => by have := HG.out _ e; have := HX.out; omega)
  replace LA := lt_mark LA hg
  replace OW := own_mark OW hg (fun k hk e => by have := HG.out _ e; have := HX.out; have := HW.out _ hk; omega)
  replace HB := bel_mark HB hg (fun k hk => by have := HG.out _ hk; have := HX.out; omega)
  clear hg og
  go_wp2_with fail
  refine (heldInts_any cg zs.length ag 1 _ (by omega) (by omega) (by omega) OG.out).mono ?_
  rintro e w12 ⟨rfl, hb⟩
  replace BA := c4_next BA hb LA
  replace LA := lt_next LA hb
  replace HB := bel_next HB hb
  replace OW := own_hnext OW hb
  replace OG := own_hnext OG hb
  clear hb
  obtain ⟨bA0, bA1, bA2, bA3⟩ := BA.out
  go_wp2_with fail
  clear bA0 bA1 bA2 bA3
  refine (toObj_any cap ao l a b c _ hm (row_at R0 HB)).mono ?_
  rintro e w13 ⟨g3, rfl, hb, hg, hG, hT, hS⟩
  replace BA := c4_next BA hb LA
  replace LA := lt_next LA hb
  replace HB := bel_next HB hb
  replace OW := own_hnext OW hb
  replace OG := own_hnext OG hb
  have R1 := row_of_at hS
  clear hb hg hG hT hS
  go_wp2_with fail
  refine (live_wrap (implLive_any l.length _ l a b c k0 hO _ hm R1.out) hz hc).mono ?_
  rintro e w14 ⟨ah, ch, rfl, hb, OH, FH⟩
  replace BA := c4_next BA hb LA
  replace LA := lt_next LA hb
  replace HB := bel_next HB hb
  replace OW := own_hnext OW hb
  replace OG := own_hnext OG hb
  clear hb FH R1
  go_wp2_with fail
  refine (eqInts_same ch cw zs.length ah aw zs _ rfl hzl (owned_ints OH.out rfl) (owned_ints OW.out rfl)).mono ?_
  rintro e w15 ⟨rfl, hb⟩
  replace BA := c4_next BA hb LA
  replace LA := lt_next LA hb
  replace HB := bel_next HB hb
  replace OW := own_hnext OW hb
  replace OG := own_hnext OG hb
  replace OH := own_hnext OH hb
  clear hb OH
  go_wp2_with fail
  refine (heldInts_any cg zs.length ag 1 _ (by omega) (by omega) (by omega) OG.out).mono ?_
  rintro e w16 ⟨rfl, hb⟩
  replace HB := bel_next HB hb
  clear hb BA LA OW OG
  go_wp2
  go_ret
  exact ⟨rfl, HB.out⟩

set_option maxHeartbeats 1000000 in
theorem law_live (cap : Nat) (ao : Option Addr) (l : List Sib) (a b c : Int) (w : World) (hl : l.length ≤ 9223372036854775807) (hr0 : SibRow w ao l) :
    Calls Try.prog 4 #[.agg #[.slice ao l.length cap, .int .i64 a, .int .i64 b, .int .i64 c]] w fun e w' => e = .returned (.bool true) ∧ Below w.heap.size w w' := by
  by_cases h : l.length ≤ 1048576
  · exact law_live_small cap ao l a b c w h hr0
  · have hif : (if (l.length : Int) ≤ 1048576 then 1048576 - (l.length : Int) else -1) = -1 := if_neg (by omega)
    clear hr0
    go_enter Try.func4, Try.ntmps4
    go_wp2_with fail
    refine (szObj_any cap ao l a b c 1048576 _ (by omega) (by omega) (by omega)).mono ?_
    rintro e w1 ⟨rfl, hb⟩
    rw [hif]
    have HB : Hid (Below w.heap.size w w1) := (bel_alloc _ _).trans (hb.mono (by simp))
    clear hb
    go_wp2
    go_ret
    exact ⟨rfl, HB.out⟩
end Go.Proofs.Ytmbjjinibnonoaa

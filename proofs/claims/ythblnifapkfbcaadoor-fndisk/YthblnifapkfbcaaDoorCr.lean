/- What survives a crash: both sides. -/
import Derived.Test.YthblnifapkfbcaaDoorRows
import Derived.WalkKit
import Derived.WalkSpells
import Derived.WalkLawsBesides
import Derived.Deep.QuietTactic
import Derived.BigQuiet
import Derived.Deep.RegionHeld3
import Derived.Test.YthblnifapkfbcaaDoorSy
import Derived.LoopN
namespace Go.Proofs.YthblnifapkfbcaaDoor
open Go.RowKit
set_option linter.unusedSimpArgs false
set_option linter.unusedVariables false

/-- A text's first bytes, as many as it has. -/
def cutT (s : ByteArray) (t : Nat) : ByteArray := s.extract 0 (min t s.size)
/-- What survives of lines that are not sure. -/
def surv (us : List ByteArray) (keep torn : Nat) : List ByteArray := if h : keep < us.length then (if torn = 0 then us.take keep else us.take keep ++ [cutT us[keep] torn]) else us
/-- The same, line by line. -/
def crs (us : List ByteArray) (keep torn i : Nat) : List ByteArray := us.take (min i keep) ++ (if h : keep < i ∧ keep < us.length ∧ 0 < torn then [cutT (us[keep]'h.2.1) torn] else [])
theorem crs_zero (us : List ByteArray) (keep torn : Nat) : crs us keep torn 0 = [] := by simp [crs]
theorem crs_lt (us : List ByteArray) (keep torn i : Nat) (hi : i < us.length) (h : i < keep) : crs us keep torn (i + 1) = crs us keep torn i ++ [us[i]] := by
  unfold crs
  rw [dif_neg (by omega), dif_neg (by omega), show min (i + 1) keep = i + 1 by omega, show min i keep = i by omega, List.take_succ_eq_append_getElem hi]
  simp
theorem crs_eq (us : List ByteArray) (keep torn i : Nat) (hi : i < us.length) (h : i = keep) (ht : 0 < torn) : crs us keep torn (i + 1) = crs us keep torn i ++ [cutT us[i] torn] := by
  subst h
  unfold crs
  rw [dif_pos ⟨by omega, hi, ht⟩, dif_neg (by omega), show min (i + 1) i = i by omega, show min i i = i by omega]
  simp
theorem crs_no (us : List ByteArray) (keep torn i : Nat) (hi : i < us.length) (h : keep ≤ i) (ht : i = keep → torn = 0) : crs us keep torn (i + 1) = crs us keep torn i := by
  unfold crs
  rw [show min (i + 1) keep = keep by omega, show min i keep = keep by omega]
  by_cases hk : i = keep
  · rw [dif_neg (by have := ht hk; omega), dif_neg (by omega)]
  · by_cases h2 : keep < i ∧ keep < us.length ∧ 0 < torn
    · rw [dif_pos ⟨by omega, h2.2⟩, dif_pos h2]
    · rw [dif_neg (by omega), dif_neg h2]
theorem crs_all (us : List ByteArray) (keep torn : Nat) : crs us keep torn us.length = surv us keep torn := by
  unfold crs surv
  by_cases h : keep < us.length
  · rw [dif_pos h, show min us.length keep = keep by omega]
    by_cases ht : torn = 0
    · rw [if_pos ht, dif_neg (by omega)]; simp
    · rw [if_neg ht, dif_pos ⟨h, h, by omega⟩]
  · rw [dif_neg h, dif_neg (by omega), show min us.length keep = us.length by omega]; simp
theorem surv_len (us : List ByteArray) (keep torn : Nat) : (surv us keep torn).length ≤ us.length := by
  unfold surv
  split
  · split <;> simp <;> omega
  · exact Nat.le_refl _
theorem crs_len (us : List ByteArray) (keep torn i : Nat) (hi : i ≤ us.length) : (crs us keep torn i).length ≤ i := by
  unfold crs
  rw [List.length_append, List.length_take]
  split
  · simp; omega
  · simp; omega
/-- What the loop keeps. -/
structure CI (w wr : World) (v0 v1 v : Value) (l : List ByteArray) : Prop where
  c0 : wr.cell? ⟨w.heap.size, 0, none⟩ = some v0
  c1 : wr.cell? ⟨w.heap.size, 1, none⟩ = some v1
  th : Th2 wr (w.heap.size + 1)
  own : OwnT wr v l (w.heap.size + 1 + 1)
  size : w.heap.size + 1 + 1 ≤ wr.heap.size
  below : Below w.heap.size w wr
theorem CI.next {w wr wr' : World} {v0 v1 v : Value} {l : List ByteArray} (h : CI w wr v0 v1 v l) (hb : Below wr.heap.size wr wr') : CI w wr' v0 v1 v l :=
  ⟨cell_next hb h.c0 (cell_lt' h.c0), cell_next hb h.c1 (cell_lt' h.c1), h.th.next hb, h.own.next hb, Nat.le_trans h.size hb.size, h.below.trans (hb.mono h.below.size)⟩
theorem CI.app {w wr wr' : World} {v0 v1 v v' : Value} {l l' : List ByteArray} (h : CI w wr v0 v1 v l) (hO : OwnT wr' v' l' (w.heap.size + 1 + 1)) (hg : Gro wr wr' v v') : CI w wr' v0 v1 v' l' :=
  ⟨h.own.cell hg h.c0 (by omega), h.own.cell hg h.c1 (by omega), h.th.gro h.own hg (by omega), hO, Nat.le_trans h.size hg.size, h.own.below h.below (by omega) hg⟩
theorem one_row {W : World} {s : ByteArray} : TRow (W.alloc (.cells #[.string s] 9)) (some ⟨W.heap.size, 0, none⟩) [s] := .inr ⟨W.heap.size, 0, rfl, fun i hi => by
  have : i = 0 := by simpa using hi
  subst this
  go_simp⟩

theorem trow_take {W : World} {ao : Option Addr} {ls : List ByteArray} {k : Nat} (h : TRow W ao ls) (hk : k < ls.length) : TRow W ao (ls.take k) := by
  rcases h with rfl | ⟨b, off, rfl, h2⟩
  · simp at hk
  · exact .inr ⟨b, off, rfl, fun i hi => by rw [List.getElem_take]; exact h2 i (by simp at hi; omega)⟩
set_option maxHeartbeats 4000000 in
theorem surv_any (v : Value) (us : List ByteArray) (keep torn : Nat) (w : World) (hn : us.length ≤ 1048576) (hw0 : ∀ s ∈ us, s.size ≤ 1048576) (h300 : keep ≤ 300) (h64 : torn ≤ 65536) (hr0 : RowV w v us) :
    Calls Tryd.prog 23 #[v, .int .i64 keep, .int .i64 torn] w fun e w' => ∃ v', e = .returned v' ∧ Below w.heap.size w w' ∧ RowV w' v' (surv us keep torn) := by
  obtain ⟨ao, c0, rfl, hc, hr0⟩ := hr0
  have RA : Hid (TRow w ao us) := hr0
  have HW : Hid (∀ s ∈ us, s.size ≤ 1048576) := hw0
  clear hr0 hw0
  obtain ⟨n, hn0⟩ : ∃ n, n = us.length := ⟨_, rfl⟩
  have HN : Hid (n = us.length) := hn0
  rw [← hn0]
  rw [← hn0] at hn hc
  clear hn0
  by_cases hk : keep < us.length
  case neg =>
    have hk' : (n : Int) ≤ (keep : Int) := by have := HN.out; omega
    have HS : Hid (surv us keep torn = us) := by show _ = _; unfold surv; rw [dif_neg hk]
    go_enter Tryd.func23, Tryd.ntmps23
    go_wp2
    go_ret
    refine ⟨_, rfl, Below.refl _ _, ?_⟩
    rw [HS.out]
    exact ⟨ao, c0, by rw [HN.out]; rfl, by rw [← HN.out]; exact hc, RA.out⟩
  have hk' : ¬ (n : Int) ≤ (keep : Int) := by have := HN.out; omega
  have hkn : keep < n := by have := HN.out; omega
  have kk : (0 : Int) ≤ (keep : Int) := by omega
  have kc : (keep : Int) ≤ (c0 : Int) := by omega
  by_cases ht : torn = 0
  · have HS : Hid (surv us keep torn = us.take keep) := by show _ = _; unfold surv; rw [dif_pos hk, if_pos ht]
    subst ht
    go_enter Tryd.func23, Tryd.ntmps23
    go_wp2
    go_ret
    refine ⟨_, rfl, Below.refl _ _, ?_⟩
    rw [HS.out]
    have hl : (us.take keep).length = keep := by simp; omega
    exact ⟨ao, c0, by rw [hl]; rfl, by omega, trow_take RA.out hk⟩
  · have ht' : ((torn : Int) == 0) = false := beq_eq_false_iff_ne.2 (by omega)
    have t0 : (0 : Int) ≤ (torn : Int) := by omega
    obtain ⟨s, hs⟩ : ∃ s, s = us[keep] := ⟨_, rfl⟩
    have hsz : s.size ≤ 1048576 := by rw [hs]; exact HW.out _ (List.getElem_mem hk)
    have HSV : Hid (surv us keep torn = us.take keep ++ [cutT s torn]) := by show _ = _; unfold surv; rw [dif_pos hk, if_neg ht, hs]
    have HL : Hid ((us.take keep ++ [cutT s torn]).length = keep + 1) := by show _ = _; simp; omega
    rcases RA.out with h' | ⟨b, off, rfl, h2⟩
    · rw [h'] at hk; simp at hk
    have x0 := h2 keep hk
    rw [← hs] at x0
    clear h2 hs
    have CL : Hid (∀ (W : World) (g2 : Nat), TRow W (some ⟨b, off, none⟩) (us.take keep) → TRow W (some ⟨g2, 0, none⟩) [cutT s torn] → Calls Tryd.prog 18 #[.slice (some ⟨b, off, none⟩) keep c0, .slice (some ⟨g2, 0, none⟩) 1 1] W fun e w' => ∃ g, e = .returned (.slice (some ⟨g, 0, none⟩) (keep + 1) (keep + 1)) ∧ Below W.heap.size W w' ∧ W.heap.size ≤ g ∧ g < w'.heap.size ∧ w'.ownsRow 0 9 1 (.slice (some ⟨g, 0, none⟩) (keep + 1) (keep + 1)) (keep + 1) (V (us.take keep ++ [cutT s torn]))) := fun W g2 h1 h2 => by
      have hl : (us.take keep).length = keep := by simp; omega
      have := copyLines_any (some ⟨b, off, none⟩) (some ⟨g2, 0, none⟩) c0 1 (us.take keep) [cutT s torn] W (by omega) (by simp) h1 h2
      rw [hl] at this
      exact this
    by_cases hst : s.size < torn
    · have hst' : (s.size : Int) < (torn : Int) := by omega
      have hct : cutT s torn = s := by
        unfold cutT
        rw [show min torn s.size = s.size by omega, ByteArray.extract_zero_size]
      rw [hct] at HSV HL CL
      go_enter Tryd.func23, Tryd.ntmps23
      go_wp2
      clear x0
      refine wp_region_held_drew (S := (fun w' => Below w.heap.size w w')) (by kernel_rfl) ?_ (fun hHeld => ?_)
      · (try dsimp only)
        exact bel_drew _
      refine wpAnyH_take (i := 0) (v := ?_) rfl (by kernel_rfl) (by kernel_rfl) (by kernel_rfl) (fun _ _ _ h => h) (Or.inl ⟨by rfl, ?_⟩) (by assumption) ?_
      rotate_left
      · intro w' hSw
        (try dsimp only at hSw)
        go_simp
        all_goals (try with_reducible rfl)
      (try simp only [Act.put, List.getElem_toArray, List.getElem_cons_zero, List.getElem_cons_succ, List.setIfInBounds_toArray, List.set_cons_zero, List.set_cons_succ])
      refine wpAnyH_take (i := 1) (v := ?_) rfl (by kernel_rfl) (by kernel_rfl) (by kernel_rfl) (fun _ _ _ h => h) (Or.inl ⟨by rfl, ?_⟩) (by assumption) ?_
      rotate_left
      · intro w' hSw
        (try dsimp only at hSw)
        go_simp
        all_goals (try with_reducible rfl)
      (try simp only [Act.put, List.getElem_toArray, List.getElem_cons_zero, List.getElem_cons_succ, List.setIfInBounds_toArray, List.set_cons_zero, List.set_cons_succ])
      refine wpAnyH_take (i := 2) (v := ?_) rfl (by kernel_rfl) (by kernel_rfl) (by kernel_rfl) (fun _ _ _ h => h) (Or.inl ⟨by rfl, ?_⟩) (by assumption) ?_
      rotate_left
      · intro w' hSw
        (try dsimp only at hSw)
        go_simp
        all_goals (try with_reducible rfl)
      (try simp only [Act.put, List.getElem_toArray, List.getElem_cons_zero, List.getElem_cons_succ, List.setIfInBounds_toArray, List.set_cons_zero, List.set_cons_succ])
      refine wpAnyH_take (i := 3) (v := ?_) rfl (by kernel_rfl) (by kernel_rfl) (by kernel_rfl) (fun _ _ _ h => h) (Or.inl ⟨by rfl, ?_⟩) (by assumption) ?_
      rotate_left
      · intro w' hSw
        (try dsimp only at hSw)
        go_simp
        all_goals (try with_reducible rfl)
      (try simp only [Act.put, List.getElem_toArray, List.getElem_cons_zero, List.getElem_cons_succ, List.setIfInBounds_toArray, List.set_cons_zero, List.set_cons_succ])
      refine wpAnyH_take (i := 4) (v := ?_) rfl (by kernel_rfl) (by kernel_rfl) (by kernel_rfl) (fun _ _ _ h => h) (Or.inl ⟨by rfl, ?_⟩) (by assumption) ?_
      rotate_left
      · intro w' hSw
        (try dsimp only at hSw)
        go_simp
        all_goals (try with_reducible rfl)
      (try simp only [Act.put, List.getElem_toArray, List.getElem_cons_zero, List.getElem_cons_succ, List.setIfInBounds_toArray, List.set_cons_zero, List.set_cons_succ])
      refine wpAnyH_take (i := 5) (v := ?_) rfl (by kernel_rfl) (by kernel_rfl) (by kernel_rfl) (fun _ _ _ h => h) (Or.inl ⟨by rfl, ?_⟩) (by assumption) ?_
      rotate_left
      · intro w' hSw
        (try dsimp only at hSw)
        go_simp
        all_goals (try with_reducible rfl)
      (try simp only [Act.put, List.getElem_toArray, List.getElem_cons_zero, List.getElem_cons_succ, List.setIfInBounds_toArray, List.set_cons_zero, List.set_cons_succ])
      refine wpAnyH_take (i := 6) (v := ?_) rfl (by kernel_rfl) (by kernel_rfl) (by kernel_rfl) (fun _ _ _ h => h) (Or.inl ⟨by rfl, ?_⟩) (by assumption) ?_
      rotate_left
      · intro w' hSw
        (try dsimp only at hSw)
        go_simp
        all_goals (try with_reducible rfl)
      (try simp only [Act.put, List.getElem_toArray, List.getElem_cons_zero, List.getElem_cons_succ, List.setIfInBounds_toArray, List.set_cons_zero, List.set_cons_succ])
      refine wpAnyH_take (i := 7) (v := ?_) rfl (by kernel_rfl) (by kernel_rfl) (by kernel_rfl) (fun _ _ _ h => h) (Or.inl ⟨by rfl, ?_⟩) (by assumption) ?_
      rotate_left
      · intro w' hSw
        (try dsimp only at hSw)
        go_simp
        all_goals (try with_reducible rfl)
      (try simp only [Act.put, List.getElem_toArray, List.getElem_cons_zero, List.getElem_cons_succ, List.setIfInBounds_toArray, List.set_cons_zero, List.set_cons_succ])
      refine wpAnyH_take (i := 8) (v := ?_) rfl (by kernel_rfl) (by kernel_rfl) (by kernel_rfl) (fun _ _ _ h => h) (Or.inl ⟨by rfl, ?_⟩) (by assumption) ?_
      rotate_left
      · intro w' hSw
        (try dsimp only at hSw)
        go_simp
        all_goals (try with_reducible rfl)
      (try simp only [Act.put, List.getElem_toArray, List.getElem_cons_zero, List.getElem_cons_succ, List.setIfInBounds_toArray, List.set_cons_zero, List.set_cons_succ])
      generalize w.drew = wd at *
      refine wpAnyH_ready (rs := [9]) (by kernel_rfl) (by simp) ?_
      refine AllReadyH.cons rfl (fun K hK => ?_) AllReadyH.nil
      (try simp only [Act.put, List.getElem_toArray, List.getElem_cons_zero, List.getElem_cons_succ, List.setIfInBounds_toArray, List.set_cons_zero, List.set_cons_succ])
      have hba := bel_alloc wd (.cells #[.string s] 9)
      have R1 : Hid (TRow (wd.alloc (.cells #[.string s] 9)) (some ⟨wd.heap.size, 0, none⟩) [s]) := one_row
      go_simp
      (try simp only [])
      refine hK.out _ _ ?_ (fun hHeld' => ?_)
      · (try dsimp only)
        exact (bel_next (w := w) hHeld hba).out
      clear hK K hHeld
      have hHeld := hHeld'
      clear hHeld'
      (try simp only [Act.put, List.getElem_toArray, List.getElem_cons_zero, List.getElem_cons_succ, List.setIfInBounds_toArray, List.set_cons_zero, List.set_cons_succ])
      clear hba
      generalize wd.alloc (.cells #[.string s] 9) = w2 at *
      generalize wd.heap.size = g2 at *
      refine wpAnyH_ready (rs := [10]) (by kernel_rfl) (by simp) ?_
      refine AllReadyH.cons rfl (fun K hK => ?_) AllReadyH.nil
      (try simp only [Act.put, List.getElem_toArray, List.getElem_cons_zero, List.getElem_cons_succ, List.setIfInBounds_toArray, List.set_cons_zero, List.set_cons_succ])
      go_simp
      go_at_call 18
      refine Calls.mono (CL.out _ _ (trow_take (RA.out.next hHeld) hk) R1.out) ?_
      rintro e w3 ⟨g, rfl, hb, hg, hG, hO⟩
      refine hK.out _ _ ?_ (fun hHeld' => ?_)
      · (try dsimp only)
        exact (bel_next (w := w) hHeld hb).out
      clear hK K hHeld
      have hHeld := hHeld'
      clear hHeld'
      (try simp only [Act.put, List.getElem_toArray, List.getElem_cons_zero, List.getElem_cons_succ, List.setIfInBounds_toArray, List.set_cons_zero, List.set_cons_succ])
      clear hb hg hG
      have OX : Hid _ := hO
      clear hO
      refine wpAnyH_take (i := 11) (v := ?_) rfl (by kernel_rfl) (by kernel_rfl) (by kernel_rfl) (fun _ _ _ h => h) (Or.inl ⟨by rfl, ?_⟩) (by assumption) ?_
      rotate_left
      · intro w' hSw
        (try dsimp only at hSw)
        go_simp
        all_goals (try with_reducible rfl)
      (try simp only [Act.put, List.getElem_toArray, List.getElem_cons_zero, List.getElem_cons_succ, List.setIfInBounds_toArray, List.set_cons_zero, List.set_cons_succ])
      refine wpAnyH_done (by kernel_rfl) ?_ _
      have HB9 : Hid (Below w.heap.size w _) := hHeld
      clear hHeld
      go_wp2
      go_ret
      refine ⟨_, rfl, HB9.out, ?_⟩
      rw [HSV.out]
      have hl := HL.out
      exact ⟨_, keep + 1, by rw [hl]; rfl, by rw [hl]; exact Nat.le_refl _, own_trow (by rw [hl]; exact OX.out)⟩
    · have hst' : ¬ (s.size : Int) < (torn : Int) := by omega
      have hts : (torn : Int) ≤ (s.size : Int) := by omega
      have hct : cutT s torn = s.extract 0 torn := by
        unfold cutT
        rw [show min torn s.size = torn by omega]
      rw [hct] at HSV HL CL
      go_enter Tryd.func23, Tryd.ntmps23
      go_wp2
      clear x0
      refine wp_region_held_drew (S := (fun w' => Below w.heap.size w w')) (by kernel_rfl) ?_ (fun hHeld => ?_)
      · (try dsimp only)
        exact bel_drew _
      refine wpAnyH_take (i := 0) (v := ?_) rfl (by kernel_rfl) (by kernel_rfl) (by kernel_rfl) (fun _ _ _ h => h) (Or.inl ⟨by rfl, ?_⟩) (by assumption) ?_
      rotate_left
      · intro w' hSw
        (try dsimp only at hSw)
        go_simp
        all_goals (try with_reducible rfl)
      (try simp only [Act.put, List.getElem_toArray, List.getElem_cons_zero, List.getElem_cons_succ, List.setIfInBounds_toArray, List.set_cons_zero, List.set_cons_succ])
      refine wpAnyH_take (i := 1) (v := ?_) rfl (by kernel_rfl) (by kernel_rfl) (by kernel_rfl) (fun _ _ _ h => h) (Or.inl ⟨by rfl, ?_⟩) (by assumption) ?_
      rotate_left
      · intro w' hSw
        (try dsimp only at hSw)
        go_simp
        all_goals (try with_reducible rfl)
      (try simp only [Act.put, List.getElem_toArray, List.getElem_cons_zero, List.getElem_cons_succ, List.setIfInBounds_toArray, List.set_cons_zero, List.set_cons_succ])
      refine wpAnyH_take (i := 2) (v := ?_) rfl (by kernel_rfl) (by kernel_rfl) (by kernel_rfl) (fun _ _ _ h => h) (Or.inl ⟨by rfl, ?_⟩) (by assumption) ?_
      rotate_left
      · intro w' hSw
        (try dsimp only at hSw)
        go_simp
        all_goals (try with_reducible rfl)
      (try simp only [Act.put, List.getElem_toArray, List.getElem_cons_zero, List.getElem_cons_succ, List.setIfInBounds_toArray, List.set_cons_zero, List.set_cons_succ])
      refine wpAnyH_take (i := 3) (v := ?_) rfl (by kernel_rfl) (by kernel_rfl) (by kernel_rfl) (fun _ _ _ h => h) (Or.inl ⟨by rfl, ?_⟩) (by assumption) ?_
      rotate_left
      · intro w' hSw
        (try dsimp only at hSw)
        go_simp
        all_goals (try with_reducible rfl)
      (try simp only [Act.put, List.getElem_toArray, List.getElem_cons_zero, List.getElem_cons_succ, List.setIfInBounds_toArray, List.set_cons_zero, List.set_cons_succ])
      refine wpAnyH_take (i := 4) (v := ?_) rfl (by kernel_rfl) (by kernel_rfl) (by kernel_rfl) (fun _ _ _ h => h) (Or.inl ⟨by rfl, ?_⟩) (by assumption) ?_
      rotate_left
      · intro w' hSw
        (try dsimp only at hSw)
        go_simp
        all_goals (try with_reducible rfl)
      (try simp only [Act.put, List.getElem_toArray, List.getElem_cons_zero, List.getElem_cons_succ, List.setIfInBounds_toArray, List.set_cons_zero, List.set_cons_succ])
      refine wpAnyH_take (i := 5) (v := ?_) rfl (by kernel_rfl) (by kernel_rfl) (by kernel_rfl) (fun _ _ _ h => h) (Or.inl ⟨by rfl, ?_⟩) (by assumption) ?_
      rotate_left
      · intro w' hSw
        (try dsimp only at hSw)
        go_simp
        all_goals (try with_reducible rfl)
      (try simp only [Act.put, List.getElem_toArray, List.getElem_cons_zero, List.getElem_cons_succ, List.setIfInBounds_toArray, List.set_cons_zero, List.set_cons_succ])
      refine wpAnyH_take (i := 6) (v := ?_) rfl (by kernel_rfl) (by kernel_rfl) (by kernel_rfl) (fun _ _ _ h => h) (Or.inl ⟨by rfl, ?_⟩) (by assumption) ?_
      rotate_left
      · intro w' hSw
        (try dsimp only at hSw)
        go_simp
        all_goals (try with_reducible rfl)
      (try simp only [Act.put, List.getElem_toArray, List.getElem_cons_zero, List.getElem_cons_succ, List.setIfInBounds_toArray, List.set_cons_zero, List.set_cons_succ])
      refine wpAnyH_take (i := 7) (v := ?_) rfl (by kernel_rfl) (by kernel_rfl) (by kernel_rfl) (fun _ _ _ h => h) (Or.inl ⟨by rfl, ?_⟩) (by assumption) ?_
      rotate_left
      · intro w' hSw
        (try dsimp only at hSw)
        go_simp
        all_goals (try with_reducible rfl)
      (try simp only [Act.put, List.getElem_toArray, List.getElem_cons_zero, List.getElem_cons_succ, List.setIfInBounds_toArray, List.set_cons_zero, List.set_cons_succ])
      refine wpAnyH_take (i := 8) (v := ?_) rfl (by kernel_rfl) (by kernel_rfl) (by kernel_rfl) (fun _ _ _ h => h) (Or.inl ⟨by rfl, ?_⟩) (by assumption) ?_
      rotate_left
      · intro w' hSw
        (try dsimp only at hSw)
        go_simp
        all_goals (try with_reducible rfl)
      (try simp only [Act.put, List.getElem_toArray, List.getElem_cons_zero, List.getElem_cons_succ, List.setIfInBounds_toArray, List.set_cons_zero, List.set_cons_succ])
      generalize w.drew = wd at *
      refine wpAnyH_ready (rs := [9]) (by kernel_rfl) (by simp) ?_
      refine AllReadyH.cons rfl (fun K hK => ?_) AllReadyH.nil
      (try simp only [Act.put, List.getElem_toArray, List.getElem_cons_zero, List.getElem_cons_succ, List.setIfInBounds_toArray, List.set_cons_zero, List.set_cons_succ])
      have hba := bel_alloc wd (.cells #[.string (s.extract 0 torn)] 9)
      have R1 : Hid (TRow (wd.alloc (.cells #[.string (s.extract 0 torn)] 9)) (some ⟨wd.heap.size, 0, none⟩) [(s.extract 0 torn)]) := one_row
      go_simp
      (try simp only [])
      refine hK.out _ _ ?_ (fun hHeld' => ?_)
      · (try dsimp only)
        exact (bel_next (w := w) hHeld hba).out
      clear hK K hHeld
      have hHeld := hHeld'
      clear hHeld'
      (try simp only [Act.put, List.getElem_toArray, List.getElem_cons_zero, List.getElem_cons_succ, List.setIfInBounds_toArray, List.set_cons_zero, List.set_cons_succ])
      clear hba
      generalize wd.alloc (.cells #[.string (s.extract 0 torn)] 9) = w2 at *
      generalize wd.heap.size = g2 at *
      refine wpAnyH_ready (rs := [10]) (by kernel_rfl) (by simp) ?_
      refine AllReadyH.cons rfl (fun K hK => ?_) AllReadyH.nil
      (try simp only [Act.put, List.getElem_toArray, List.getElem_cons_zero, List.getElem_cons_succ, List.setIfInBounds_toArray, List.set_cons_zero, List.set_cons_succ])
      go_simp
      go_at_call 18
      refine Calls.mono (CL.out _ _ (trow_take (RA.out.next hHeld) hk) R1.out) ?_
      rintro e w3 ⟨g, rfl, hb, hg, hG, hO⟩
      refine hK.out _ _ ?_ (fun hHeld' => ?_)
      · (try dsimp only)
        exact (bel_next (w := w) hHeld hb).out
      clear hK K hHeld
      have hHeld := hHeld'
      clear hHeld'
      (try simp only [Act.put, List.getElem_toArray, List.getElem_cons_zero, List.getElem_cons_succ, List.setIfInBounds_toArray, List.set_cons_zero, List.set_cons_succ])
      clear hb hg hG
      have OX : Hid _ := hO
      clear hO
      refine wpAnyH_take (i := 11) (v := ?_) rfl (by kernel_rfl) (by kernel_rfl) (by kernel_rfl) (fun _ _ _ h => h) (Or.inl ⟨by rfl, ?_⟩) (by assumption) ?_
      rotate_left
      · intro w' hSw
        (try dsimp only at hSw)
        go_simp
        all_goals (try with_reducible rfl)
      (try simp only [Act.put, List.getElem_toArray, List.getElem_cons_zero, List.getElem_cons_succ, List.setIfInBounds_toArray, List.set_cons_zero, List.set_cons_succ])
      refine wpAnyH_done (by kernel_rfl) ?_ _
      have HB9 : Hid (Below w.heap.size w _) := hHeld
      clear hHeld
      go_wp2
      go_ret
      refine ⟨_, rfl, HB9.out, ?_⟩
      rw [HSV.out]
      have hl := HL.out
      exact ⟨_, keep + 1, by rw [hl]; rfl, by rw [hl]; exact Nat.le_refl _, own_trow (by rw [hl]; exact OX.out)⟩

theorem cut_size (s : ByteArray) (t : Nat) : (cutT s t).size ≤ s.size := by unfold cutT; rw [ByteArray.size_extract]; omega
set_option maxHeartbeats 8000000 in
theorem l04Crash_any (v0 v1 : Value) (ss us : List ByteArray) (keep torn : Nat) (w : World) (hn : ss.length ≤ 1048576) (hn' : us.length ≤ 1048576) (hw0 : ∀ s ∈ us, s.size ≤ 1048576) (h300 : keep ≤ 300) (h64 : torn ≤ 65536) (hr0 : RowV w v0 ss) (hs0 : RowV w v1 us) :
    Calls Tryd.prog 26 #[.agg #[v0, v1], .int .i64 keep, .int .i64 torn] w fun e w' => ∃ p0 d0 p1 d1, e = .returned (.agg #[.slice p0 (ss ++ surv us keep torn).length d0, .slice p1 0 d1]) ∧ Below w.heap.size w w' ∧ Own2 w' (.slice p0 (ss ++ surv us keep torn).length d0) (.slice p1 0 d1) (ss ++ surv us keep torn) [] w.heap.size w'.heap.size := by
  obtain ⟨ao, c0, rfl, _, hr0⟩ := hr0
  obtain ⟨bo, c1, rfl, _, hs0⟩ := hs0
  have RA : Hid (TRow w ao ss) := hr0
  have RU : Hid (TRow w bo us) := hs0
  have HW : Hid (∀ s ∈ us, s.size ≤ 1048576) := hw0
  obtain ⟨n, hn0⟩ : ∃ n, n = ss.length := ⟨_, rfl⟩
  obtain ⟨m, hm0⟩ : ∃ m, m = us.length := ⟨_, rfl⟩
  have HN : Hid (n = ss.length) := hn0
  have HM : Hid (m = us.length) := hm0
  rw [← hn0, ← hm0]
  rw [← hn0] at hn
  rw [← hm0] at hn'
  clear hn0 hm0 hr0 hs0 hw0
  have B0 : Hid (Below w.heap.size w ((w.alloc (.cells #[.slice ao n c0, .slice bo m c1] 25)).alloc (.cells #[.slice none 0 0, .slice none 0 0] 25))) := ((Below.refl _ _).alloc (Nat.le_refl _) _).alloc (by simp) _
  have C0 : Hid (CI w (((w.alloc (.cells #[.slice ao n c0, .slice bo m c1] 25)).alloc (.cells #[.slice none 0 0, .slice none 0 0] 25)).alloc (.cells #[] 9)) (.slice ao n c0) (.slice bo m c1) (.slice (some ⟨w.heap.size + 1 + 1, 0, none⟩) 0 0) []) := by
    have h1 : Th2 ((w.alloc (.cells #[.slice ao n c0, .slice bo m c1] 25)).alloc (.cells #[.slice none 0 0, .slice none 0 0] 25)) (w.heap.size + 1) := by have := th2_new (W := (w.alloc (.cells #[.slice ao n c0, .slice bo m c1] 25))) (v0 := .slice none 0 0) (v1 := .slice none 0 0) (t := 25); simpa using this
    have h2 := OwnT.new (W := ((w.alloc (.cells #[.slice ao n c0, .slice bo m c1] 25)).alloc (.cells #[.slice none 0 0, .slice none 0 0] 25))) (lo := w.heap.size + 1 + 1) (by simp)
    exact ⟨by go_simp, by go_simp, h1.next (bel_alloc _ _), by simpa using h2, by simp, B0.out.trans ((bel_alloc _ _).mono B0.out.size)⟩
  clear B0
  go_enter Tryd.func26, Tryd.ntmps26
  go_wp2_with (at_builtin; refine wpList_appT rfl (.tmp 9) (.tmp 11) rfl rfl (.slice (some ⟨w.heap.size + 1 + 1, 0, none⟩) 0 0) 0 [] (w.heap.size + 1 + 1) n rfl rfl C0.out.own C0.out.size ao n c0 ss rfl HN.out (RA.out.next C0.out.below) (by omega) (by omega) ?_; intro vo1 vc1 w1 hO hg; have C1 : Hid _ := C0.out.app hO hg; clear hO hg)
  clear C0
  go_loopw [7, 8] (fun s7 s8 wr => ∃ (i : Nat) (l : List ByteArray) (vo : Option Addr) (vc N : Nat), i ≤ m ∧ s8 = .int .i64 i ∧ s7 = .slice vo N vc ∧ N = l.length ∧ l = ss ++ crs us keep torn i ∧ CI w wr (.slice ao n c0) (.slice bo m c1) (.slice vo N vc) l) (fun _ s8 _ => m - (intOf s8).toNat)
  case atStart => exact ⟨0, [] ++ ss, vo1, vc1, n, by omega, rfl, rfl, by simpa using HN.out, by rw [crs_zero]; simp, C1.out⟩
  case round =>
    clear C1
    obtain ⟨i, l, vo, vc, N, hi, rfl, rfl, hL0, hl0, hC0⟩ := hrel
    have CC : Hid (CI w wr (.slice ao n c0) (.slice bo m c1) (.slice vo N vc) l) := hC0
    have HL : Hid (N = l.length) := hL0
    have HQ : Hid (l = ss ++ crs us keep torn i) := hl0
    have hN : N ≤ 2097152 := by
      have h1 := HL.out
      rw [HQ.out, List.length_append] at h1
      have h2 := crs_len us keep torn i (by have := HM.out; omega)
      have h3 := HN.out
      omega
    have d0 := hC0.c0
    have d1 := hC0.c1
    clear hC0 hL0 hl0
    have kk : (0 : Int) ≤ (i : Int) := by omega
    by_cases hlt : i < m
    · have hlt' : (i : Int) < (m : Int) := by omega
      have his : i < us.length := by have := HM.out; omega
      rcases RU.out with h' | ⟨b, off, rfl, h2⟩
      · rw [h'] at his; simp at his
      obtain ⟨s, hs⟩ : ∃ s, s = us[i] := ⟨_, rfl⟩
      have HS : Hid (s = us[i]) := hs
      have H2 : Hid (w.cell? ⟨b, off + i, none⟩ = some (.string s)) := by show _ = _; rw [h2 i his, hs]
      have hsz : s.size ≤ 1048576 := by rw [hs]; exact HW.out _ (List.getElem_mem his)
      have x0 := cell_next CC.out.below H2.out (cell_lt' H2.out)
      clear h2 hs
      by_cases hk : i < keep
      · have hk' : (i : Int) < (keep : Int) := by omega
        have hke : ((i : Int) == (keep : Int)) = false := beq_eq_false_iff_ne.2 (by omega)
        have HR : Hid (l ++ [s] = ss ++ crs us keep torn (i + 1)) := by show _ = _; rw [HQ.out, crs_lt us keep torn i his hk, HS.out, List.append_assoc]
        have CA : Hid (CI w (wr.alloc (.cells #[.string s] 9)) (.slice ao n c0) (.slice (some ⟨b, off, none⟩) m c1) (.slice vo N vc) l) := CC.out.next (bel_alloc _ _)
        go_wp2_with (at_builtin; refine wpList_appT rfl (.tmp 23) (.tmp 29) rfl rfl (.slice vo N vc) N l (w.heap.size + 1 + 1) (N + 1) rfl HL.out CA.out.own CA.out.size (some ⟨wr.heap.size, 0, none⟩) 1 1 [s] rfl rfl one_row (by omega) rfl ?_; intro vo3 vc3 w3 hO hg; have C3 : Hid _ := CA.out.app hO hg; clear hO hg)
        go_roundw
        case rel => exact ⟨i + 1, l ++ [s], vo3, vc3, N + 1, by omega, by go_num, rfl, by have := HL.out; simp; omega, HR.out, C3.out⟩
        case measure => simp [intOf]; omega
      have hk' : ¬ (i : Int) < (keep : Int) := by omega
      by_cases hke : i = keep ∧ 0 < torn
      · obtain ⟨hke, htp⟩ := hke
        have hke' : ((i : Int) == (keep : Int)) = true := by rw [beq_iff_eq]; omega
        have htp' : (0 : Int) < (torn : Int) := by omega
        have htn' : (0 : Int) ≤ (torn : Int) := by omega
        have HKE : Hid (i = keep) := hke
        clear hke
        by_cases hst : s.size < torn
        · have hst' : (s.size : Int) < (torn : Int) := by omega
          have hct : cutT s torn = s := by
            unfold cutT
            rw [show min torn s.size = s.size by omega, ByteArray.extract_zero_size]
          have HR : Hid (l ++ [s] = ss ++ crs us keep torn (i + 1)) := by show _ = _; rw [HQ.out, crs_eq us keep torn i his HKE.out htp, ← HS.out, hct, List.append_assoc]
          go_wp2
          refine wp_region_held_drew (S := (fun w' => (w'.cell? ⟨w.heap.size, 0, none⟩ = some (.slice ao n c0) ∧ w'.cell? ⟨w.heap.size, 1, none⟩ = some (.slice (some ⟨b, off, none⟩) m c1) ∧ w'.cell? ⟨b, off + i, none⟩ = some (.string s)) ∧ Below w.heap.size w w')) (by kernel_rfl) ?_ (fun hHeld => ?_)
          · (try dsimp only)
            exact ⟨⟨cell_next (bel_drew _) d0 (cell_lt' d0), cell_next (bel_drew _) d1 (cell_lt' d1), cell_next (bel_drew _) x0 (cell_lt' x0)⟩, (bel_next (w := w) CC.out.below (bel_drew _)).out⟩
          refine wpAnyH_take (i := 0) (v := ?_) rfl (by kernel_rfl) (by kernel_rfl) (by kernel_rfl) (fun _ _ _ h => h) (Or.inl ⟨by rfl, ?_⟩) (by assumption) ?_
          rotate_left
          · intro w' hSw
            (try dsimp only at hSw)
            go_simp
            all_goals (try with_reducible rfl)
          (try simp only [Act.put, List.getElem_toArray, List.getElem_cons_zero, List.getElem_cons_succ, List.setIfInBounds_toArray, List.set_cons_zero, List.set_cons_succ])
          refine wpAnyH_take (i := 1) (v := ?_) rfl (by kernel_rfl) (by kernel_rfl) (by kernel_rfl) (fun _ _ _ h => h) (Or.inl ⟨by rfl, ?_⟩) (by assumption) ?_
          rotate_left
          · intro w' hSw
            (try dsimp only at hSw)
            go_simp
            all_goals (try with_reducible rfl)
          (try simp only [Act.put, List.getElem_toArray, List.getElem_cons_zero, List.getElem_cons_succ, List.setIfInBounds_toArray, List.set_cons_zero, List.set_cons_succ])
          refine wpAnyH_take (i := 2) (v := ?_) rfl (by kernel_rfl) (by kernel_rfl) (by kernel_rfl) (fun _ _ _ h => h) (Or.inl ⟨by rfl, ?_⟩) (by assumption) ?_
          rotate_left
          · intro w' hSw
            (try dsimp only at hSw)
            go_simp
            all_goals (try with_reducible rfl)
          (try simp only [Act.put, List.getElem_toArray, List.getElem_cons_zero, List.getElem_cons_succ, List.setIfInBounds_toArray, List.set_cons_zero, List.set_cons_succ])
          refine wpAnyH_take (i := 3) (v := ?_) rfl (by kernel_rfl) (by kernel_rfl) (by kernel_rfl) (fun _ _ _ h => h) (Or.inl ⟨by rfl, ?_⟩) (by assumption) ?_
          rotate_left
          · intro w' hSw
            (try dsimp only at hSw)
            go_simp
            all_goals (try with_reducible rfl)
          (try simp only [Act.put, List.getElem_toArray, List.getElem_cons_zero, List.getElem_cons_succ, List.setIfInBounds_toArray, List.set_cons_zero, List.set_cons_succ])
          refine wpAnyH_take (i := 4) (v := ?_) rfl (by kernel_rfl) (by kernel_rfl) (by kernel_rfl) (fun _ _ _ h => h) (Or.inl ⟨by rfl, ?_⟩) (by assumption) ?_
          rotate_left
          · intro w' hSw
            (try dsimp only at hSw)
            go_simp
            all_goals (try with_reducible rfl)
          (try simp only [Act.put, List.getElem_toArray, List.getElem_cons_zero, List.getElem_cons_succ, List.setIfInBounds_toArray, List.set_cons_zero, List.set_cons_succ])
          refine wpAnyH_take (i := 5) (v := ?_) rfl (by kernel_rfl) (by kernel_rfl) (by kernel_rfl) (fun _ _ _ h => h) (Or.inl ⟨by rfl, ?_⟩) (by assumption) ?_
          rotate_left
          · intro w' hSw
            (try dsimp only at hSw)
            go_simp
            all_goals (try with_reducible rfl)
          (try simp only [Act.put, List.getElem_toArray, List.getElem_cons_zero, List.getElem_cons_succ, List.setIfInBounds_toArray, List.set_cons_zero, List.set_cons_succ])
          refine wpAnyH_take (i := 6) (v := ?_) rfl (by kernel_rfl) (by kernel_rfl) (by kernel_rfl) (fun _ _ _ h => h) (Or.inl ⟨by rfl, ?_⟩) (by assumption) ?_
          rotate_left
          · intro w' hSw
            (try dsimp only at hSw)
            go_simp
            all_goals (try with_reducible rfl)
          (try simp only [Act.put, List.getElem_toArray, List.getElem_cons_zero, List.getElem_cons_succ, List.setIfInBounds_toArray, List.set_cons_zero, List.set_cons_succ])
          refine wpAnyH_take (i := 7) (v := ?_) rfl (by kernel_rfl) (by kernel_rfl) (by kernel_rfl) (fun _ _ _ h => h) (Or.inl ⟨by rfl, ?_⟩) (by assumption) ?_
          rotate_left
          · intro w' hSw
            (try dsimp only at hSw)
            go_simp
            all_goals (try with_reducible rfl)
          (try simp only [Act.put, List.getElem_toArray, List.getElem_cons_zero, List.getElem_cons_succ, List.setIfInBounds_toArray, List.set_cons_zero, List.set_cons_succ])
          refine wpAnyH_take (i := 8) (v := ?_) rfl (by kernel_rfl) (by kernel_rfl) (by kernel_rfl) (fun _ _ _ h => h) (Or.inl ⟨by rfl, ?_⟩) (by assumption) ?_
          rotate_left
          · intro w' hSw
            (try dsimp only at hSw)
            go_simp
            all_goals (try with_reducible rfl)
          (try simp only [Act.put, List.getElem_toArray, List.getElem_cons_zero, List.getElem_cons_succ, List.setIfInBounds_toArray, List.set_cons_zero, List.set_cons_succ])
          refine wpAnyH_take (i := 9) (v := ?_) rfl (by kernel_rfl) (by kernel_rfl) (by kernel_rfl) (fun _ _ _ h => h) (Or.inl ⟨by rfl, ?_⟩) (by assumption) ?_
          rotate_left
          · intro w' hSw
            (try dsimp only at hSw)
            go_simp
            all_goals (try with_reducible rfl)
          (try simp only [Act.put, List.getElem_toArray, List.getElem_cons_zero, List.getElem_cons_succ, List.setIfInBounds_toArray, List.set_cons_zero, List.set_cons_succ])
          refine wpAnyH_take (i := 10) (v := ?_) rfl (by kernel_rfl) (by kernel_rfl) (by kernel_rfl) (fun _ _ _ h => h) (Or.inl ⟨by rfl, ?_⟩) (by assumption) ?_
          rotate_left
          · intro w' hSw
            (try dsimp only at hSw)
            go_simp
            all_goals (try with_reducible rfl)
          (try simp only [Act.put, List.getElem_toArray, List.getElem_cons_zero, List.getElem_cons_succ, List.setIfInBounds_toArray, List.set_cons_zero, List.set_cons_succ])
          refine wpAnyH_take (i := 11) (v := ?_) rfl (by kernel_rfl) (by kernel_rfl) (by kernel_rfl) (fun _ _ _ h => h) (Or.inl ⟨by rfl, ?_⟩) (by assumption) ?_
          rotate_left
          · intro w' hSw
            (try dsimp only at hSw)
            go_simp
            all_goals (try with_reducible rfl)
          (try simp only [Act.put, List.getElem_toArray, List.getElem_cons_zero, List.getElem_cons_succ, List.setIfInBounds_toArray, List.set_cons_zero, List.set_cons_succ])
          refine wpAnyH_take (i := 12) (v := ?_) rfl (by kernel_rfl) (by kernel_rfl) (by kernel_rfl) (fun _ _ _ h => h) (Or.inl ⟨by rfl, ?_⟩) (by assumption) ?_
          rotate_left
          · intro w' hSw
            (try dsimp only at hSw)
            go_simp
            all_goals (try with_reducible rfl)
          (try simp only [Act.put, List.getElem_toArray, List.getElem_cons_zero, List.getElem_cons_succ, List.setIfInBounds_toArray, List.set_cons_zero, List.set_cons_succ])
          refine wpAnyH_take (i := 13) (v := ?_) rfl (by kernel_rfl) (by kernel_rfl) (by kernel_rfl) (fun _ _ _ h => h) (Or.inl ⟨by rfl, ?_⟩) (by assumption) ?_
          rotate_left
          · intro w' hSw
            (try dsimp only at hSw)
            go_simp
            all_goals (try with_reducible rfl)
          (try simp only [Act.put, List.getElem_toArray, List.getElem_cons_zero, List.getElem_cons_succ, List.setIfInBounds_toArray, List.set_cons_zero, List.set_cons_succ])
          refine wpAnyH_take (i := 14) (v := ?_) rfl (by kernel_rfl) (by kernel_rfl) (by kernel_rfl) (fun _ _ _ h => h) (Or.inl ⟨by rfl, ?_⟩) (by assumption) ?_
          rotate_left
          · intro w' hSw
            (try dsimp only at hSw)
            go_simp
            all_goals (try with_reducible rfl)
          (try simp only [Act.put, List.getElem_toArray, List.getElem_cons_zero, List.getElem_cons_succ, List.setIfInBounds_toArray, List.set_cons_zero, List.set_cons_succ])
          replace CC : Hid _ := CC.out.next (bel_drew _)
          clear d0 d1 x0
          generalize wr.drew = wd at *
          refine wpAnyH_ready (rs := [15]) (by kernel_rfl) (by simp) ?_
          refine AllReadyH.cons rfl (fun K hK => ?_) AllReadyH.nil
          (try simp only [Act.put, List.getElem_toArray, List.getElem_cons_zero, List.getElem_cons_succ, List.setIfInBounds_toArray, List.set_cons_zero, List.set_cons_succ])
          have hba := bel_alloc wd (.cells #[.string s] 9)
          have R1 : Hid (TRow (wd.alloc (.cells #[.string s] 9)) (some ⟨wd.heap.size, 0, none⟩) [s]) := one_row
          go_simp
          (try simp only [])
          refine hK.out _ _ ?_ (fun hHeld' => ?_)
          · (try dsimp only)
            exact ⟨⟨cell_next hba hHeld.1.1 (cell_lt' hHeld.1.1), cell_next hba hHeld.1.2.1 (cell_lt' hHeld.1.2.1), cell_next hba hHeld.1.2.2 (cell_lt' hHeld.1.2.2)⟩, (bel_next (w := w) hHeld.2 hba).out⟩
          clear hK K hHeld
          have hHeld := hHeld'
          clear hHeld'
          (try simp only [Act.put, List.getElem_toArray, List.getElem_cons_zero, List.getElem_cons_succ, List.setIfInBounds_toArray, List.set_cons_zero, List.set_cons_succ])
          replace CC : Hid _ := CC.out.next hba
          clear hba
          generalize wd.alloc (.cells #[.string s] 9) = w2 at *
          generalize wd.heap.size = g2 at *
          refine wpAnyH_ready (rs := [16]) (by kernel_rfl) (by simp) ?_
          refine AllReadyH.cons rfl (fun K hK => ?_) AllReadyH.nil
          (try simp only [Act.put, List.getElem_toArray, List.getElem_cons_zero, List.getElem_cons_succ, List.setIfInBounds_toArray, List.set_cons_zero, List.set_cons_succ])
          rw [if_pos (by rfl)]
          refine wp_appT (.tmp 38) (.tmp 53) rfl rfl _ N l (w.heap.size + 1 + 1) (N + 1) rfl HL.out CC.out.own CC.out.size _ 1 1 [s] rfl rfl R1.out (by omega) rfl ?_
          intro vo3 vc3 w3 hO hg
          refine hK.out _ _ ?_ (fun hHeld' => ?_)
          · (try dsimp only)
            exact ⟨⟨CC.out.own.cell hg hHeld.1.1 (by omega), CC.out.own.cell hg hHeld.1.2.1 (by omega), CC.out.own.cell hg hHeld.1.2.2 (by have := cell_lt' H2.out; omega)⟩, CC.out.own.below hHeld.2 (by omega) hg⟩
          clear hK K hHeld
          have hHeld := hHeld'
          clear hHeld'
          (try simp only [Act.put, List.getElem_toArray, List.getElem_cons_zero, List.getElem_cons_succ, List.setIfInBounds_toArray, List.set_cons_zero, List.set_cons_succ])
          have C3 : Hid _ := CC.out.app hO hg
          clear hO hg CC
          refine wpAnyH_take (i := 17) (v := ?_) rfl (by kernel_rfl) (by kernel_rfl) (by kernel_rfl) (fun _ _ _ h => h) (Or.inl ⟨by rfl, ?_⟩) (by assumption) ?_
          rotate_left
          · intro w' hSw
            (try dsimp only at hSw)
            go_simp
            all_goals (try with_reducible rfl)
          (try simp only [Act.put, List.getElem_toArray, List.getElem_cons_zero, List.getElem_cons_succ, List.setIfInBounds_toArray, List.set_cons_zero, List.set_cons_succ])
          refine wpAnyH_done (by kernel_rfl) ?_ _
          clear hHeld
          go_wp2
          go_roundw
          case rel => exact ⟨i + 1, l ++ [s], vo3, vc3, N + 1, by omega, by go_num, rfl, by have := HL.out; simp; omega, HR.out, C3.out⟩
          case measure => simp [intOf]; omega
        · have hst' : ¬ (s.size : Int) < (torn : Int) := by omega
          have hts : (torn : Int) ≤ (s.size : Int) := by omega
          have hct : cutT s torn = s.extract 0 torn := by
            unfold cutT
            rw [show min torn s.size = torn by omega]
          have HR : Hid (l ++ [s.extract 0 torn] = ss ++ crs us keep torn (i + 1)) := by show _ = _; rw [HQ.out, crs_eq us keep torn i his HKE.out htp, ← HS.out, hct, List.append_assoc]
          go_wp2
          refine wp_region_held_drew (S := (fun w' => (w'.cell? ⟨w.heap.size, 0, none⟩ = some (.slice ao n c0) ∧ w'.cell? ⟨w.heap.size, 1, none⟩ = some (.slice (some ⟨b, off, none⟩) m c1) ∧ w'.cell? ⟨b, off + i, none⟩ = some (.string s)) ∧ Below w.heap.size w w')) (by kernel_rfl) ?_ (fun hHeld => ?_)
          · (try dsimp only)
            exact ⟨⟨cell_next (bel_drew _) d0 (cell_lt' d0), cell_next (bel_drew _) d1 (cell_lt' d1), cell_next (bel_drew _) x0 (cell_lt' x0)⟩, (bel_next (w := w) CC.out.below (bel_drew _)).out⟩
          refine wpAnyH_take (i := 0) (v := ?_) rfl (by kernel_rfl) (by kernel_rfl) (by kernel_rfl) (fun _ _ _ h => h) (Or.inl ⟨by rfl, ?_⟩) (by assumption) ?_
          rotate_left
          · intro w' hSw
            (try dsimp only at hSw)
            go_simp
            all_goals (try with_reducible rfl)
          (try simp only [Act.put, List.getElem_toArray, List.getElem_cons_zero, List.getElem_cons_succ, List.setIfInBounds_toArray, List.set_cons_zero, List.set_cons_succ])
          refine wpAnyH_take (i := 1) (v := ?_) rfl (by kernel_rfl) (by kernel_rfl) (by kernel_rfl) (fun _ _ _ h => h) (Or.inl ⟨by rfl, ?_⟩) (by assumption) ?_
          rotate_left
          · intro w' hSw
            (try dsimp only at hSw)
            go_simp
            all_goals (try with_reducible rfl)
          (try simp only [Act.put, List.getElem_toArray, List.getElem_cons_zero, List.getElem_cons_succ, List.setIfInBounds_toArray, List.set_cons_zero, List.set_cons_succ])
          refine wpAnyH_take (i := 2) (v := ?_) rfl (by kernel_rfl) (by kernel_rfl) (by kernel_rfl) (fun _ _ _ h => h) (Or.inl ⟨by rfl, ?_⟩) (by assumption) ?_
          rotate_left
          · intro w' hSw
            (try dsimp only at hSw)
            go_simp
            all_goals (try with_reducible rfl)
          (try simp only [Act.put, List.getElem_toArray, List.getElem_cons_zero, List.getElem_cons_succ, List.setIfInBounds_toArray, List.set_cons_zero, List.set_cons_succ])
          refine wpAnyH_take (i := 3) (v := ?_) rfl (by kernel_rfl) (by kernel_rfl) (by kernel_rfl) (fun _ _ _ h => h) (Or.inl ⟨by rfl, ?_⟩) (by assumption) ?_
          rotate_left
          · intro w' hSw
            (try dsimp only at hSw)
            go_simp
            all_goals (try with_reducible rfl)
          (try simp only [Act.put, List.getElem_toArray, List.getElem_cons_zero, List.getElem_cons_succ, List.setIfInBounds_toArray, List.set_cons_zero, List.set_cons_succ])
          refine wpAnyH_take (i := 4) (v := ?_) rfl (by kernel_rfl) (by kernel_rfl) (by kernel_rfl) (fun _ _ _ h => h) (Or.inl ⟨by rfl, ?_⟩) (by assumption) ?_
          rotate_left
          · intro w' hSw
            (try dsimp only at hSw)
            go_simp
            all_goals (try with_reducible rfl)
          (try simp only [Act.put, List.getElem_toArray, List.getElem_cons_zero, List.getElem_cons_succ, List.setIfInBounds_toArray, List.set_cons_zero, List.set_cons_succ])
          refine wpAnyH_take (i := 5) (v := ?_) rfl (by kernel_rfl) (by kernel_rfl) (by kernel_rfl) (fun _ _ _ h => h) (Or.inl ⟨by rfl, ?_⟩) (by assumption) ?_
          rotate_left
          · intro w' hSw
            (try dsimp only at hSw)
            go_simp
            all_goals (try with_reducible rfl)
          (try simp only [Act.put, List.getElem_toArray, List.getElem_cons_zero, List.getElem_cons_succ, List.setIfInBounds_toArray, List.set_cons_zero, List.set_cons_succ])
          refine wpAnyH_take (i := 6) (v := ?_) rfl (by kernel_rfl) (by kernel_rfl) (by kernel_rfl) (fun _ _ _ h => h) (Or.inl ⟨by rfl, ?_⟩) (by assumption) ?_
          rotate_left
          · intro w' hSw
            (try dsimp only at hSw)
            go_simp
            all_goals (try with_reducible rfl)
          (try simp only [Act.put, List.getElem_toArray, List.getElem_cons_zero, List.getElem_cons_succ, List.setIfInBounds_toArray, List.set_cons_zero, List.set_cons_succ])
          refine wpAnyH_take (i := 7) (v := ?_) rfl (by kernel_rfl) (by kernel_rfl) (by kernel_rfl) (fun _ _ _ h => h) (Or.inl ⟨by rfl, ?_⟩) (by assumption) ?_
          rotate_left
          · intro w' hSw
            (try dsimp only at hSw)
            go_simp
            all_goals (try with_reducible rfl)
          (try simp only [Act.put, List.getElem_toArray, List.getElem_cons_zero, List.getElem_cons_succ, List.setIfInBounds_toArray, List.set_cons_zero, List.set_cons_succ])
          refine wpAnyH_take (i := 8) (v := ?_) rfl (by kernel_rfl) (by kernel_rfl) (by kernel_rfl) (fun _ _ _ h => h) (Or.inl ⟨by rfl, ?_⟩) (by assumption) ?_
          rotate_left
          · intro w' hSw
            (try dsimp only at hSw)
            go_simp
            all_goals (try with_reducible rfl)
          (try simp only [Act.put, List.getElem_toArray, List.getElem_cons_zero, List.getElem_cons_succ, List.setIfInBounds_toArray, List.set_cons_zero, List.set_cons_succ])
          refine wpAnyH_take (i := 9) (v := ?_) rfl (by kernel_rfl) (by kernel_rfl) (by kernel_rfl) (fun _ _ _ h => h) (Or.inl ⟨by rfl, ?_⟩) (by assumption) ?_
          rotate_left
          · intro w' hSw
            (try dsimp only at hSw)
            go_simp
            all_goals (try with_reducible rfl)
          (try simp only [Act.put, List.getElem_toArray, List.getElem_cons_zero, List.getElem_cons_succ, List.setIfInBounds_toArray, List.set_cons_zero, List.set_cons_succ])
          refine wpAnyH_take (i := 10) (v := ?_) rfl (by kernel_rfl) (by kernel_rfl) (by kernel_rfl) (fun _ _ _ h => h) (Or.inl ⟨by rfl, ?_⟩) (by assumption) ?_
          rotate_left
          · intro w' hSw
            (try dsimp only at hSw)
            go_simp
            all_goals (try with_reducible rfl)
          (try simp only [Act.put, List.getElem_toArray, List.getElem_cons_zero, List.getElem_cons_succ, List.setIfInBounds_toArray, List.set_cons_zero, List.set_cons_succ])
          refine wpAnyH_take (i := 11) (v := ?_) rfl (by kernel_rfl) (by kernel_rfl) (by kernel_rfl) (fun _ _ _ h => h) (Or.inl ⟨by rfl, ?_⟩) (by assumption) ?_
          rotate_left
          · intro w' hSw
            (try dsimp only at hSw)
            go_simp
            all_goals (try with_reducible rfl)
          (try simp only [Act.put, List.getElem_toArray, List.getElem_cons_zero, List.getElem_cons_succ, List.setIfInBounds_toArray, List.set_cons_zero, List.set_cons_succ])
          refine wpAnyH_take (i := 12) (v := ?_) rfl (by kernel_rfl) (by kernel_rfl) (by kernel_rfl) (fun _ _ _ h => h) (Or.inl ⟨by rfl, ?_⟩) (by assumption) ?_
          rotate_left
          · intro w' hSw
            (try dsimp only at hSw)
            go_simp
            all_goals (try with_reducible rfl)
          (try simp only [Act.put, List.getElem_toArray, List.getElem_cons_zero, List.getElem_cons_succ, List.setIfInBounds_toArray, List.set_cons_zero, List.set_cons_succ])
          refine wpAnyH_take (i := 13) (v := ?_) rfl (by kernel_rfl) (by kernel_rfl) (by kernel_rfl) (fun _ _ _ h => h) (Or.inl ⟨by rfl, ?_⟩) (by assumption) ?_
          rotate_left
          · intro w' hSw
            (try dsimp only at hSw)
            go_simp
            all_goals (try with_reducible rfl)
          (try simp only [Act.put, List.getElem_toArray, List.getElem_cons_zero, List.getElem_cons_succ, List.setIfInBounds_toArray, List.set_cons_zero, List.set_cons_succ])
          refine wpAnyH_take (i := 14) (v := ?_) rfl (by kernel_rfl) (by kernel_rfl) (by kernel_rfl) (fun _ _ _ h => h) (Or.inl ⟨by rfl, ?_⟩) (by assumption) ?_
          rotate_left
          · intro w' hSw
            (try dsimp only at hSw)
            go_simp
            all_goals (try with_reducible rfl)
          (try simp only [Act.put, List.getElem_toArray, List.getElem_cons_zero, List.getElem_cons_succ, List.setIfInBounds_toArray, List.set_cons_zero, List.set_cons_succ])
          replace CC : Hid _ := CC.out.next (bel_drew _)
          clear d0 d1 x0
          generalize wr.drew = wd at *
          refine wpAnyH_ready (rs := [15]) (by kernel_rfl) (by simp) ?_
          refine AllReadyH.cons rfl (fun K hK => ?_) AllReadyH.nil
          (try simp only [Act.put, List.getElem_toArray, List.getElem_cons_zero, List.getElem_cons_succ, List.setIfInBounds_toArray, List.set_cons_zero, List.set_cons_succ])
          have hba := bel_alloc wd (.cells #[.string (s.extract 0 torn)] 9)
          have R1 : Hid (TRow (wd.alloc (.cells #[.string (s.extract 0 torn)] 9)) (some ⟨wd.heap.size, 0, none⟩) [(s.extract 0 torn)]) := one_row
          go_simp
          (try simp only [])
          refine hK.out _ _ ?_ (fun hHeld' => ?_)
          · (try dsimp only)
            exact ⟨⟨cell_next hba hHeld.1.1 (cell_lt' hHeld.1.1), cell_next hba hHeld.1.2.1 (cell_lt' hHeld.1.2.1), cell_next hba hHeld.1.2.2 (cell_lt' hHeld.1.2.2)⟩, (bel_next (w := w) hHeld.2 hba).out⟩
          clear hK K hHeld
          have hHeld := hHeld'
          clear hHeld'
          (try simp only [Act.put, List.getElem_toArray, List.getElem_cons_zero, List.getElem_cons_succ, List.setIfInBounds_toArray, List.set_cons_zero, List.set_cons_succ])
          replace CC : Hid _ := CC.out.next hba
          clear hba
          generalize wd.alloc (.cells #[.string (s.extract 0 torn)] 9) = w2 at *
          generalize wd.heap.size = g2 at *
          refine wpAnyH_ready (rs := [16]) (by kernel_rfl) (by simp) ?_
          refine AllReadyH.cons rfl (fun K hK => ?_) AllReadyH.nil
          (try simp only [Act.put, List.getElem_toArray, List.getElem_cons_zero, List.getElem_cons_succ, List.setIfInBounds_toArray, List.set_cons_zero, List.set_cons_succ])
          rw [if_pos (by rfl)]
          refine wp_appT (.tmp 38) (.tmp 53) rfl rfl _ N l (w.heap.size + 1 + 1) (N + 1) rfl HL.out CC.out.own CC.out.size _ 1 1 [(s.extract 0 torn)] rfl rfl R1.out (by omega) rfl ?_
          intro vo3 vc3 w3 hO hg
          refine hK.out _ _ ?_ (fun hHeld' => ?_)
          · (try dsimp only)
            exact ⟨⟨CC.out.own.cell hg hHeld.1.1 (by omega), CC.out.own.cell hg hHeld.1.2.1 (by omega), CC.out.own.cell hg hHeld.1.2.2 (by have := cell_lt' H2.out; omega)⟩, CC.out.own.below hHeld.2 (by omega) hg⟩
          clear hK K hHeld
          have hHeld := hHeld'
          clear hHeld'
          (try simp only [Act.put, List.getElem_toArray, List.getElem_cons_zero, List.getElem_cons_succ, List.setIfInBounds_toArray, List.set_cons_zero, List.set_cons_succ])
          have C3 : Hid _ := CC.out.app hO hg
          clear hO hg CC
          refine wpAnyH_take (i := 17) (v := ?_) rfl (by kernel_rfl) (by kernel_rfl) (by kernel_rfl) (fun _ _ _ h => h) (Or.inl ⟨by rfl, ?_⟩) (by assumption) ?_
          rotate_left
          · intro w' hSw
            (try dsimp only at hSw)
            go_simp
            all_goals (try with_reducible rfl)
          (try simp only [Act.put, List.getElem_toArray, List.getElem_cons_zero, List.getElem_cons_succ, List.setIfInBounds_toArray, List.set_cons_zero, List.set_cons_succ])
          refine wpAnyH_done (by kernel_rfl) ?_ _
          clear hHeld
          go_wp2
          go_roundw
          case rel => exact ⟨i + 1, l ++ [s.extract 0 torn], vo3, vc3, N + 1, by omega, by go_num, rfl, by have := HL.out; simp; omega, HR.out, C3.out⟩
          case measure => simp [intOf]; omega
      · have HR : Hid (l = ss ++ crs us keep torn (i + 1)) := by show _ = _; rw [HQ.out, crs_no us keep torn i his (by omega) (by omega)]
        by_cases hie : i = keep
        · have hke' : ((i : Int) == (keep : Int)) = true := by rw [beq_iff_eq]; omega
          have HKE : Hid (i = keep) := hie
          have htp' : ¬ (0 : Int) < (torn : Int) := by omega
          clear hie hke
          go_wp2
          go_roundw
          case rel => exact ⟨i + 1, l, vo, vc, N, by omega, by go_num, rfl, HL.out, HR.out, CC.out⟩
          case measure => simp [intOf]; omega
        · have hke' : ((i : Int) == (keep : Int)) = false := beq_eq_false_iff_ne.2 (by omega)
          go_wp2
          go_roundw
          case rel => exact ⟨i + 1, l, vo, vc, N, by omega, by go_num, rfl, HL.out, HR.out, CC.out⟩
          case measure => simp [intOf]; omega
    · have hlt' : ¬ (i : Int) < (m : Int) := by omega
      have HQ2 : Hid (l = ss ++ surv us keep torn) := by
        show _ = _
        have e : i = us.length := by have := HM.out; omega
        rw [HQ.out, e, crs_all]
      have CA : Hid (CI w (wr.alloc (.cells #[] 9)) (.slice ao n c0) (.slice bo m c1) (.slice vo N vc) l) := CC.out.next (bel_alloc _ _)
      obtain ⟨⟨⟨u0, T0⟩, ⟨u1, T1⟩⟩, Z0, Z1⟩ := CA.out.th
      have TH := CA.out.th
      go_wp2
      refine bodyPost_ret (v := .agg #[.slice vo N vc, .slice (some ⟨wr.heap.size, 0, none⟩) 0 0]) (by simp [results, Tryd.results26, go_sem, set2_cells TH, *]) rfl ?_
      have hz := CC.out.size
      have hNL : ss.length + (surv us keep torn).length = N := by rw [HL.out, HQ2.out, List.length_append]
      have hNL' : (ss ++ surv us keep torn).length = N := by rw [HL.out, HQ2.out]
      refine ⟨vo, vc, some ⟨wr.heap.size, 0, none⟩, 0, (by first | rw [hNL'] | rw [hNL]), bel_set (bel_set CA.out.below (by omega)) (by omega), ?_⟩
      (first | rw [hNL'] | rw [hNL])
      rw [← HQ2.out]
      exact Own2.weak (Own2.set (Own2.set (own2_of CA.out.own (OwnT.new hz) (fun k hk e => by have := (CC.out.own.own.lt k hk).2; simp [Value.ownBlock] at e; omega)) (Or.inl (by omega))) (Or.inl (by omega))) (by omega) (by simp)
end Go.Proofs.YthblnifapkfbcaaDoor

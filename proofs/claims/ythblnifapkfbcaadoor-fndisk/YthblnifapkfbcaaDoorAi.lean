/- Append, with its deferred look: the program's side. -/
import Derived.Test.YthblnifapkfbcaaDoorRows
import Derived.WalkKit
import Derived.WalkSpells
import Derived.WalkLawsBesides
import Derived.Deep.QuietTactic
import Derived.BigQuiet
import Derived.Deep.RegionHeld3
import Derived.Test.YthblnifapkfbcaaDoorAw
import Derived.Defers
import Derived.LoopN
namespace Go.Proofs.YthblnifapkfbcaaDoor
open Go.RowKit
set_option linter.unusedSimpArgs false
set_option linter.unusedVariables false

/-- The same, and no panic. -/
def NoP (Q : Exit → Act → World → Prop) : Exit → Act → World → Prop := fun e a w => (∀ c, e ≠ .panic c) ∧ Q e a w
/-- A cell of a number that may be written. -/
structure Th1 (W : World) (p : Nat) : Prop where
  cell : ∃ u, W.cell? ⟨p, 0, none⟩ = some u
  f0 : W.frozen? ⟨p, 0, none⟩ = false
theorem Th1.next {W W' : World} {p : Nat} (h : Th1 W p) (hb : Below W.heap.size W W') : Th1 W' p := by
  obtain ⟨⟨u, h0⟩, f0⟩ := h
  exact ⟨⟨u, cell_next hb h0 (cell_lt' h0)⟩, frozen_next hb f0 (cell_lt' h0)⟩
set_option maxHeartbeats 2000000 in
theorem clo_ok (pa pd pc : Nat) (x0 x1 : Value) (rs ru : List ByteArray) (W : World) (hn : rs.length ≤ 1048576) (hn' : ru.length ≤ 1048576) (h300 : rs.length + ru.length ≤ 300) (hr0 : RowV W x0 rs) (hs0 : RowV W x1 ru)
    (c0 : W.cell? ⟨pa, 0, none⟩ = some x0) (c1 : W.cell? ⟨pa, 1, none⟩ = some x1) :
    CallsD Tryd.prog 16 #[.pointer (some ⟨pa, 0, none⟩), .pointer (some ⟨pd, 0, none⟩), .pointer (some ⟨pc, 0, none⟩)] .returning W fun e u' w' => u' = .returning ∧ (e = .returned (.tuple #[]) ∧ Below W.heap.size W w') := by
  have RA : Hid (RowV W x0 rs) := hr0
  have RU : Hid (RowV W x1 ru) := hs0
  clear hr0 hs0
  have hd : decide (rs.length + ru.length ≤ 300) = true := decide_eq_true h300
  go_enter_d Tryd.func16, Tryd.ntmps16
  go_wp2_with fail
  refine (implOK_any x0 x1 rs ru _ hn hn' RA.out RU.out).mono ?_
  rintro e w1 ⟨rfl, hb⟩
  have HB : Hid (Below W.heap.size W w1) := hb
  clear hb c0 c1
  rw [hd]
  go_wp2
  go_end0
  exact ⟨rfl, HB.out⟩
/-- What the look leaves where there was no room. -/
def CF (W : World) (pa pc : Nat) (ss us : List ByteArray) (e : Ending) (w' : World) : Prop := e = .returned (.tuple #[]) ∧ ∃ p0 d0 p1 d1 w2, Below W.heap.size W w2 ∧ Own2 w2 (.slice p0 ss.length d0) (.slice p1 us.length d1) ss us W.heap.size w2.heap.size ∧ w' = ((w2.setCell ⟨pa, 0, none⟩ (.slice p0 ss.length d0)).setCell ⟨pa, 1, none⟩ (.slice p1 us.length d1)).setCell ⟨pc, 0, none⟩ (.int .i64 7)
set_option maxHeartbeats 2000000 in
theorem clo_full (pa pd pc : Nat) (x0 x1 v0 v1 : Value) (rs ru ss us : List ByteArray) (W : World) (hn : rs.length ≤ 1048576) (hn' : ru.length ≤ 1048576) (hm : ss.length ≤ 1048576) (hm' : us.length ≤ 1048576) (h300 : ¬ rs.length + ru.length ≤ 300) (hr0 : RowV W x0 rs) (hs0 : RowV W x1 ru) (hr1 : RowV W v0 ss) (hs1 : RowV W v1 us)
    (c0 : W.cell? ⟨pa, 0, none⟩ = some x0) (c1 : W.cell? ⟨pa, 1, none⟩ = some x1) (d0 : W.cell? ⟨pd, 0, none⟩ = some v0) (d1 : W.cell? ⟨pd, 1, none⟩ = some v1) (ht : Th2 W pa) (hc : Th1 W pc) (hne : pc ≠ pa) :
    CallsD Tryd.prog 16 #[.pointer (some ⟨pa, 0, none⟩), .pointer (some ⟨pd, 0, none⟩), .pointer (some ⟨pc, 0, none⟩)] .returning W fun e u' w' => u' = .returning ∧ CF W pa pc ss us e w' := by
  have RA : Hid (RowV W x0 rs) := hr0
  have RU : Hid (RowV W x1 ru) := hs0
  have RB : Hid (RowV W v0 ss) := hr1
  have RV : Hid (RowV W v1 us) := hs1
  have TH : Hid (Th2 W pa) := ht
  have TC : Hid (Th1 W pc) := hc
  clear hr0 hs0 hr1 hs1 ht hc
  have hd : decide (rs.length + ru.length ≤ 300) = false := decide_eq_false h300
  go_enter_d Tryd.func16, Tryd.ntmps16
  go_wp2_with fail
  refine (implOK_any x0 x1 rs ru _ hn hn' RA.out RU.out).mono ?_
  rintro e w1 ⟨rfl, hb⟩
  have HB : Hid (Below W.heap.size W w1) := hb
  have e0 := cell_next hb d0 (cell_lt' d0)
  have e1 := cell_next hb d1 (cell_lt' d1)
  clear hb c0 c1 d0 d1
  rw [hd]
  go_wp2_with fail
  refine (copyDisk_any v0 v1 ss us _ hm hm' (RB.out.next HB.out) (RV.out.next HB.out)).mono ?_
  rintro e w2 ⟨p0, k0, p1, k1, rfl, hb, hO⟩
  have HB2 : Hid (Below W.heap.size W w2) := bel_next HB hb
  have OX : Hid (Own2 w2 (.slice p0 ss.length k0) (.slice p1 us.length k1) ss us W.heap.size w2.heap.size) := hO.weak HB.out.size (Nat.le_refl _)
  have TH2 := TH.out.next HB2.out
  have TC2 := TC.out.next HB2.out
  obtain ⟨⟨⟨u0, T0⟩, ⟨u1, T1⟩⟩, Z0, Z1⟩ := TH2
  obtain ⟨⟨u2, T2⟩, Z2⟩ := TC2
  have s2 := cell_set (t := pa) (j := 0) (u := .slice p0 ss.length k0) T2 hne
  have s3 := cell_set (t := pa) (j := 1) (u := .slice p1 us.length k1) s2 hne
  clear hb hO e0 e1 HB
  go_wp2
  go_end0
  exact ⟨rfl, p0, k0, p1, k1, w2, HB2.out, OX.out, rfl⟩

theorem one_rowT {W : World} {s : ByteArray} : TRow (W.alloc (.cells #[.string s] 9)) (some ⟨W.heap.size, 0, none⟩) [s] := .inr ⟨W.heap.size, 0, rfl, fun i hi => by
  have : i = 0 := by simpa using hi
  subst this
  go_simp⟩
set_option maxHeartbeats 8000000 in
theorem implAppend_any (v0 v1 : Value) (ss us : List ByteArray) (t : ByteArray) (w : World) (htm : t.size ≤ 1048576) (hn : ss.length ≤ 1048576) (hn' : us.length ≤ 1048576) (hr0 : RowV w v0 ss) (hs0 : RowV w v1 us) (hc0 : TB w) :
    Calls Tryd.prog 5 #[.agg #[v0, v1], .string t] w (DP w (apC ss us t) (apS ss us t) (apU ss us t)) := by
  have hmf : ∀ (fn : Fn) (first cap : Array Value) (w : World), (Instr.makeFunc fn first cap).run Tryd.prog w = .ok (.func fn first cap) w := fun _ _ _ _ => rfl
  have RA : Hid (RowV w v0 ss) := hr0
  have RU : Hid (RowV w v1 us) := hs0
  have HT : Hid (TB w) := hc0
  obtain ⟨ao, c0, rfl, _, hta⟩ := hr0
  obtain ⟨bo, c1, rfl, _, htb⟩ := hs0
  have TA : Hid (TRow w ao ss) := hta
  have TU : Hid (TRow w bo us) := htb
  clear hta htb hc0
  have B0 : Hid (Below w.heap.size w (((w.alloc (.cells #[.slice ao ss.length c0, .slice bo us.length c1] 25)).alloc (.cells #[.slice none 0 0, .slice none 0 0] 25)).alloc (.cells #[.int .i64 0] 3))) := (((Below.refl _ _).alloc (Nat.le_refl _) _).alloc (by simp) _).alloc (by simp; omega) _
  by_cases hl : 65536 < t.size
  · obtain ⟨e1, e2, e3⟩ := ap_long (ss := ss) (us := us) hl
    rw [e1, e2, e3]
    clear e1 e2 e3
    have hl' : (65536 : Int) < (t.size : Int) := by omega
    go_enter_defers Tryd.func5, Tryd.ntmps5
    go_wp2_with fail
    refine ⟨.tuple #[.agg #[.slice none 0 0, .slice none 0 0], .int .i64 2], by simp [results, Tryd.results5, go_sem], ?_⟩
    exact ⟨none, 0, none, 0, rfl, by repeat (first | exact Below.refl _ _ | refine Below.drew ?_ | refine below_drewN ?_ _ | refine Below.alloc ?_ (by first | (simp; done) | (simp; omega)) _ | refine Below.setCell ?_ (by first | (simp; done) | (simp; omega)) _), own2_nil _ _ _⟩
  have hl' : ¬ (65536 : Int) < (t.size : Int) := by omega
  by_cases hbad : 300 < ss.length + us.length
  · obtain ⟨e1, e2, e3⟩ := ap_bad (ss := ss) (us := us) hl hbad
    rw [e1, e2, e3]
    clear e1 e2 e3
    have hd : decide (ss.length + us.length ≤ 300) = false := decide_eq_false (by omega)
    go_enter_defers Tryd.func5, Tryd.ntmps5
    go_wp2_with fail
    refine (implOK_any _ _ ss us _ hn hn' (RA.out.next B0.out) (RU.out.next B0.out)).mono ?_
    rintro e w1 ⟨rfl, hb⟩
    have HB : Hid (Below w.heap.size w w1) := bel_next B0 hb
    have hz := hb.size
    simp at hz
    have HZ : Hid (w.heap.size + 3 ≤ w1.heap.size) := (show _ ≤ _ by omega)
    have x0 : w1.cell? ⟨w.heap.size, 0, none⟩ = some (.slice ao ss.length c0) := cell_next hb (by go_simp) (by simp; omega)
    have x1 : w1.cell? ⟨w.heap.size, 1, none⟩ = some (.slice bo us.length c1) := cell_next hb (by go_simp) (by simp; omega)
    have TH : Hid (Th2 w1 (w.heap.size + 1)) := Th2.next ⟨⟨⟨.slice none 0 0, (by go_simp)⟩, ⟨.slice none 0 0, (by go_simp)⟩⟩, by go_simp, by go_simp⟩ hb
    have TC : Hid (Th1 w1 (w.heap.size + 1 + 1)) := Th1.next ⟨⟨.int .i64 0, (by go_simp)⟩, by go_simp⟩ hb
    clear hb hz
    rw [hd]
    obtain ⟨⟨⟨u0, T0⟩, ⟨u1, T1⟩⟩, Z0, Z1⟩ := TH.out
    obtain ⟨⟨u2, T2⟩, Z2⟩ := TC.out
    have s2 := cell_set (t := w.heap.size + 1) (j := 0) (u := .slice none 0 0) T2 (by omega)
    have s3 := cell_set (t := w.heap.size + 1) (j := 1) (u := .slice none 0 0) s2 (by omega)
    have CC := set2_cells (v0 := .slice none 0 0) (v1 := .slice none 0 0) TH.out
    have y0 := cell_set (t := w.heap.size + 1 + 1) (j := 0) (u := .int .i64 1) CC.1 (by omega)
    have y1 := cell_set (t := w.heap.size + 1 + 1) (j := 0) (u := .int .i64 1) CC.2 (by omega)
    have y2 := World.cell?_setCell_same _ _ (.int .i64 1) s3
    have BX := bel_set (g := w.heap.size + 1 + 1) (o := 0) (u := .int .i64 1) (bel_set (g := w.heap.size + 1) (o := 1) (u := .slice none 0 0) (bel_set (g := w.heap.size + 1) (o := 0) (u := .slice none 0 0) HB.out (by omega)) (by omega)) (by omega)
    have BH : Hid _ := BX
    clear CC BX
    go_wp2_with fail
    refine ⟨.tuple #[.agg #[.slice none 0 0, .slice none 0 0], .int .i64 1], by simp [results, Tryd.results5, go_sem, y0, y1, y2], ?_⟩
    exact ⟨none, 0, none, 0, rfl, BH.out, own2_nil _ _ _⟩
  have hd : decide (ss.length + us.length ≤ 300) = true := decide_eq_true (by omega)
  obtain ⟨q, hq⟩ : ∃ q, q = sealS t := ⟨_, rfl⟩
  have SE : Hid (∀ W : World, TB W → Calls Tryd.prog 19 #[.string t] W fun e w' => e = .returned (.string q) ∧ Below W.heap.size W w') := fun W h => by rw [hq]; exact implSeal_any t W h (by omega)
  have CL1 : Hid (∀ W : World, TRow W ao ss → Calls Tryd.prog 18 #[.slice ao ss.length c0, .slice none 0 0] W fun e w' => ∃ g, e = .returned (.slice (some ⟨g, 0, none⟩) ss.length ss.length) ∧ Below W.heap.size W w' ∧ W.heap.size ≤ g ∧ g < w'.heap.size ∧ w'.ownsRow 0 9 1 (.slice (some ⟨g, 0, none⟩) ss.length ss.length) ss.length (V ss)) := fun W hW => by
    have := copyLines_any ao none c0 0 ss [] W hn (by simp) hW (.inl rfl)
    rw [List.append_nil] at this
    simpa using this
  obtain ⟨LS, hLS⟩ : ∃ LS, LS = us ++ [q] := ⟨_, rfl⟩
  obtain ⟨UL, hUL⟩ : ∃ UL, UL = LS.length := ⟨_, rfl⟩
  have CL2 : Hid (∀ (W : World) (g2 : Nat), TRow W bo us → TRow W (some ⟨g2, 0, none⟩) [q] → Calls Tryd.prog 18 #[.slice bo us.length c1, .slice (some ⟨g2, 0, none⟩) 1 1] W fun e w' => ∃ g, e = .returned (.slice (some ⟨g, 0, none⟩) UL UL) ∧ Below W.heap.size W w' ∧ W.heap.size ≤ g ∧ g < w'.heap.size ∧ w'.ownsRow 0 9 1 (.slice (some ⟨g, 0, none⟩) UL UL) UL (V LS)) := fun W g2 h0 h1 => by
    have := copyLines_any bo (some ⟨g2, 0, none⟩) c1 1 us [q] W hn' (by simp) h0 h1
    rw [← List.length_append, ← hLS, ← hUL] at this
    exact this
  have hll : LS.length = us.length + 1 := by rw [hLS]; simp
  have HUL : Hid (UL = LS.length) := hUL
  have HLL : Hid (UL = LS.length) := hUL
  by_cases hfull : ss.length + us.length = 300
  · obtain ⟨e1, e2, e3⟩ := ap_full (ss := ss) (us := us) hl hfull
    rw [e1, e2, e3]
    clear e1 e2 e3 hUL hLS hq
    go_enter_defers Tryd.func5, Tryd.ntmps5
    go_wp2_with fail
    refine (implOK_any _ _ ss us _ hn hn' (RA.out.next B0.out) (RU.out.next B0.out)).mono ?_
    rintro e w1 ⟨rfl, hb⟩
    have HB : Hid (Below w.heap.size w w1) := bel_next B0 hb
    have hz := hb.size
    simp at hz
    have HZ : Hid (w.heap.size + 3 ≤ w1.heap.size) := (show _ ≤ _ by omega)
    have x0 : w1.cell? ⟨w.heap.size, 0, none⟩ = some (.slice ao ss.length c0) := cell_next hb (by go_simp) (by simp; omega)
    have x1 : w1.cell? ⟨w.heap.size, 1, none⟩ = some (.slice bo us.length c1) := cell_next hb (by go_simp) (by simp; omega)
    have TH : Hid (Th2 w1 (w.heap.size + 1)) := Th2.next ⟨⟨⟨.slice none 0 0, (by go_simp)⟩, ⟨.slice none 0 0, (by go_simp)⟩⟩, by go_simp, by go_simp⟩ hb
    have TC : Hid (Th1 w1 (w.heap.size + 1 + 1)) := Th1.next ⟨⟨.int .i64 0, (by go_simp)⟩, by go_simp⟩ hb
    clear hb hz
    rw [hd]
    go_wp2
    refine Code.wp_mono (Q := NoP _) (fun _ _ _ h => h.2) ?_
    refine wp_region_held_drew (S := (fun w' => (w'.cell? ⟨w.heap.size, 0, none⟩ = some (.slice ao ss.length c0) ∧ w'.cell? ⟨w.heap.size, 1, none⟩ = some (.slice bo us.length c1)) ∧ w.heap.size + 3 ≤ w'.heap.size ∧ Below w.heap.size w w')) (by kernel_rfl) ?_ (fun hHeld => ?_)
    · (try dsimp only)
      exact ⟨⟨cell_next (bel_drew _) x0 (cell_lt' x0), cell_next (bel_drew _) x1 (cell_lt' x1)⟩, HZ.out, (bel_next HB (bel_drew _)).out⟩
    refine wpAnyH_take (i := 0) (v := ?_) rfl (by kernel_rfl) (by kernel_rfl) (by kernel_rfl) (fun _ _ _ h => (h.1 _ rfl).elim) (Or.inl ⟨by rfl, ?_⟩) (by assumption) ?_
    rotate_left
    · intro w' hSw
      (try dsimp only at hSw)
      go_simp
      all_goals (try with_reducible rfl)
    (try simp only [Act.put, List.getElem_toArray, List.getElem_cons_zero, List.getElem_cons_succ, List.setIfInBounds_toArray, List.set_cons_zero, List.set_cons_succ])
    refine wpAnyH_take (i := 1) (v := ?_) rfl (by kernel_rfl) (by kernel_rfl) (by kernel_rfl) (fun _ _ _ h => (h.1 _ rfl).elim) (Or.inl ⟨by rfl, ?_⟩) (by assumption) ?_
    rotate_left
    · intro w' hSw
      (try dsimp only at hSw)
      go_simp
      all_goals (try with_reducible rfl)
    (try simp only [Act.put, List.getElem_toArray, List.getElem_cons_zero, List.getElem_cons_succ, List.setIfInBounds_toArray, List.set_cons_zero, List.set_cons_succ])
    refine wpAnyH_take (i := 3) (v := ?_) rfl (by kernel_rfl) (by kernel_rfl) (by kernel_rfl) (fun _ _ _ h => (h.1 _ rfl).elim) (Or.inl ⟨by rfl, ?_⟩) (by assumption) ?_
    rotate_left
    · intro w' hSw
      (try dsimp only at hSw)
      go_simp
      all_goals (try with_reducible rfl)
    (try simp only [Act.put, List.getElem_toArray, List.getElem_cons_zero, List.getElem_cons_succ, List.setIfInBounds_toArray, List.set_cons_zero, List.set_cons_succ])
    refine wpAnyH_take (i := 4) (v := ?_) rfl (by kernel_rfl) (by kernel_rfl) (by kernel_rfl) (fun _ _ _ h => (h.1 _ rfl).elim) (Or.inl ⟨by rfl, ?_⟩) (by assumption) ?_
    rotate_left
    · intro w' hSw
      (try dsimp only at hSw)
      go_simp
      all_goals (try with_reducible rfl)
    (try simp only [Act.put, List.getElem_toArray, List.getElem_cons_zero, List.getElem_cons_succ, List.setIfInBounds_toArray, List.set_cons_zero, List.set_cons_succ])
    refine wpAnyH_take (i := 5) (v := ?_) rfl (by kernel_rfl) (by kernel_rfl) (by kernel_rfl) (fun _ _ _ h => (h.1 _ rfl).elim) (Or.inl ⟨by rfl, ?_⟩) (by assumption) ?_
    rotate_left
    · intro w' hSw
      (try dsimp only at hSw)
      go_simp
      all_goals (try with_reducible rfl)
    (try simp only [Act.put, List.getElem_toArray, List.getElem_cons_zero, List.getElem_cons_succ, List.setIfInBounds_toArray, List.set_cons_zero, List.set_cons_succ])
    replace TH : Hid _ := TH.out.next (bel_drew _)
    replace TC : Hid _ := TC.out.next (bel_drew _)
    clear x0 x1
    generalize w1.drew = wd at *
    refine wpAnyH_ready (rs := [2]) (by kernel_rfl) (by simp) ?_
    refine AllReadyH.cons rfl (fun K hK => ?_) AllReadyH.nil
    (try simp only [Act.put, List.getElem_toArray, List.getElem_cons_zero, List.getElem_cons_succ, List.setIfInBounds_toArray, List.set_cons_zero, List.set_cons_succ])
    go_simp
    go_at_call 18
    refine Calls.mono (CL1.out _ (TA.out.next hHeld.2.2)) ?_
    rintro e w2 ⟨g0, rfl, hb, hg, hG, hO⟩
    have hz0 := hHeld.2.1
    refine hK.out _ _ ?_ (fun hHeld' => ?_)
    · (try dsimp only)
      exact ⟨⟨cell_next hb hHeld.1.1 (cell_lt' hHeld.1.1), cell_next hb hHeld.1.2 (cell_lt' hHeld.1.2)⟩, Nat.le_trans hHeld.2.1 (hb).size, (bel_next (w := w) hHeld.2.2 hb).out⟩
    clear hK K hHeld
    have hHeld := hHeld'
    clear hHeld'
    (try simp only [Act.put, List.getElem_toArray, List.getElem_cons_zero, List.getElem_cons_succ, List.setIfInBounds_toArray, List.set_cons_zero, List.set_cons_succ])
    replace TH : Hid _ := TH.out.next hb
    replace TC : Hid _ := TC.out.next hb
    have C : Hid (OwnT w2 (.slice (some ⟨g0, 0, none⟩) ss.length ss.length) ss (w.heap.size + 3)) := ⟨hO, fun k hk => by simp [Value.ownBlock] at hk; omega⟩
    clear hb hg hG hO hz0
    refine wpAnyH_ready (rs := [6]) (by kernel_rfl) (by simp) ?_
    refine AllReadyH.cons rfl (fun K hK => ?_) AllReadyH.nil
    (try simp only [Act.put, List.getElem_toArray, List.getElem_cons_zero, List.getElem_cons_succ, List.setIfInBounds_toArray, List.set_cons_zero, List.set_cons_succ])
    go_simp
    go_at_call 19
    refine Calls.mono (SE.out _ (TB.next (show TB w from HT.out) hHeld.2.2)) ?_
    rintro e w3 ⟨rfl, hb⟩
    refine hK.out _ _ ?_ (fun hHeld' => ?_)
    · (try dsimp only)
      exact ⟨⟨cell_next hb hHeld.1.1 (cell_lt' hHeld.1.1), cell_next hb hHeld.1.2 (cell_lt' hHeld.1.2)⟩, Nat.le_trans hHeld.2.1 (hb).size, (bel_next (w := w) hHeld.2.2 hb).out⟩
    clear hK K hHeld
    have hHeld := hHeld'
    clear hHeld'
    (try simp only [Act.put, List.getElem_toArray, List.getElem_cons_zero, List.getElem_cons_succ, List.setIfInBounds_toArray, List.set_cons_zero, List.set_cons_succ])
    replace TH : Hid _ := TH.out.next hb
    replace TC : Hid _ := TC.out.next hb
    replace C : Hid _ := C.out.next hb
    clear hb
    refine wpAnyH_ready (rs := [7]) (by kernel_rfl) (by simp) ?_
    refine AllReadyH.cons rfl (fun K hK => ?_) AllReadyH.nil
    (try simp only [Act.put, List.getElem_toArray, List.getElem_cons_zero, List.getElem_cons_succ, List.setIfInBounds_toArray, List.set_cons_zero, List.set_cons_succ])
    have hba := bel_alloc w3 (.cells #[.string q] 9)
    have R1 : Hid (TRow (w3.alloc (.cells #[.string q] 9)) (some ⟨w3.heap.size, 0, none⟩) [q]) := one_rowT
    go_simp
    (try simp only [])
    refine hK.out _ _ ?_ (fun hHeld' => ?_)
    · (try dsimp only)
      exact ⟨⟨cell_next hba hHeld.1.1 (cell_lt' hHeld.1.1), cell_next hba hHeld.1.2 (cell_lt' hHeld.1.2)⟩, Nat.le_trans hHeld.2.1 (hba).size, (bel_next (w := w) hHeld.2.2 hba).out⟩
    clear hK K hHeld
    have hHeld := hHeld'
    clear hHeld'
    (try simp only [Act.put, List.getElem_toArray, List.getElem_cons_zero, List.getElem_cons_succ, List.setIfInBounds_toArray, List.set_cons_zero, List.set_cons_succ])
    replace TH : Hid _ := TH.out.next hba
    replace TC : Hid _ := TC.out.next hba
    replace C : Hid _ := C.out.next hba
    clear hba
    generalize w3.alloc (.cells #[.string q] 9) = w4 at *
    generalize w3.heap.size = g3 at *
    refine wpAnyH_ready (rs := [8]) (by kernel_rfl) (by simp) ?_
    refine AllReadyH.cons rfl (fun K hK => ?_) AllReadyH.nil
    (try simp only [Act.put, List.getElem_toArray, List.getElem_cons_zero, List.getElem_cons_succ, List.setIfInBounds_toArray, List.set_cons_zero, List.set_cons_succ])
    go_simp
    go_at_call 18
    refine Calls.mono (CL2.out _ _ (TU.out.next hHeld.2.2) R1.out) ?_
    rintro e w5 ⟨g7, rfl, hb, hg, hG, hO⟩
    have hz0 := hHeld.2.1
    have NE : Hid (∀ k, (Value.slice (some ⟨g0, 0, none⟩) ss.length ss.length).ownBlock = some k → (Value.slice (some ⟨g7, 0, none⟩) UL UL).ownBlock ≠ some k) := fun k e e_ => by have h1 := (C.out.own.lt _ e).2; simp [Value.ownBlock] at e_; omega
    refine hK.out _ _ ?_ (fun hHeld' => ?_)
    · (try dsimp only)
      exact ⟨⟨cell_next hb hHeld.1.1 (cell_lt' hHeld.1.1), cell_next hb hHeld.1.2 (cell_lt' hHeld.1.2)⟩, Nat.le_trans hHeld.2.1 (hb).size, (bel_next (w := w) hHeld.2.2 hb).out⟩
    clear hK K hHeld
    have hHeld := hHeld'
    clear hHeld'
    (try simp only [Act.put, List.getElem_toArray, List.getElem_cons_zero, List.getElem_cons_succ, List.setIfInBounds_toArray, List.set_cons_zero, List.set_cons_succ])
    replace TH : Hid _ := TH.out.next hb
    replace TC : Hid _ := TC.out.next hb
    replace C : Hid _ := C.out.next hb
    have Nn : Hid (OwnT w5 (.slice (some ⟨g7, 0, none⟩) UL UL) LS (w.heap.size + 3)) := ⟨by rw [← HUL.out]; exact hO, fun k hk => by simp [Value.ownBlock] at hk; omega⟩
    clear hb hg hG hO hz0 R1
    refine wpAnyH_take (i := 9) (v := ?_) rfl (by kernel_rfl) (by kernel_rfl) (by kernel_rfl) (fun _ _ _ h => (h.1 _ rfl).elim) (Or.inl ⟨by rfl, ?_⟩) (by assumption) ?_
    rotate_left
    · intro w' hSw
      (try dsimp only at hSw)
      go_simp
      all_goals (try with_reducible rfl)
    (try simp only [Act.put, List.getElem_toArray, List.getElem_cons_zero, List.getElem_cons_succ, List.setIfInBounds_toArray, List.set_cons_zero, List.set_cons_succ])
    obtain ⟨⟨⟨u0, T0⟩, ⟨u1, T1⟩⟩, Z0, Z1⟩ := TH.out
    obtain ⟨⟨u2, T2⟩, Z2⟩ := TC.out
    refine wpAnyH_ready (rs := [10]) (by kernel_rfl) (by simp) ?_
    refine AllReadyH.cons rfl (fun K hK => ?_) AllReadyH.nil
    (try simp only [Act.put, List.getElem_toArray, List.getElem_cons_zero, List.getElem_cons_succ, List.setIfInBounds_toArray, List.set_cons_zero, List.set_cons_succ])
    go_simp
    (try simp only [])
    refine hK.out _ _ ?_ (fun hHeld' => ?_)
    · (try dsimp only)
      exact ⟨⟨cell_set (cell_set hHeld.1.1 (by omega)) (by omega), cell_set (cell_set hHeld.1.2 (by omega)) (by omega)⟩, by simpa [World.setCell] using hHeld.2.1, bel_set (bel_set hHeld.2.2 (by omega)) (by omega)⟩
    clear hK K hHeld
    have hHeld := hHeld'
    clear hHeld'
    (try simp only [Act.put, List.getElem_toArray, List.getElem_cons_zero, List.getElem_cons_succ, List.setIfInBounds_toArray, List.set_cons_zero, List.set_cons_succ])
    have s2 := cell_set (t := w.heap.size + 1) (j := 0) (u := Value.slice (some ⟨g0, 0, none⟩) ss.length ss.length) T2 (by omega)
    have s3 := cell_set (t := w.heap.size + 1) (j := 1) (u := Value.slice (some ⟨g7, 0, none⟩) UL UL) s2 (by omega)
    refine wpAnyH_ready (rs := [11]) (by kernel_rfl) (by simp) ?_
    refine AllReadyH.cons rfl (fun K hK => ?_) AllReadyH.nil
    (try simp only [Act.put, List.getElem_toArray, List.getElem_cons_zero, List.getElem_cons_succ, List.setIfInBounds_toArray, List.set_cons_zero, List.set_cons_succ])
    go_simp
    (try simp only [])
    refine hK.out _ _ ?_ (fun hHeld' => ?_)
    · (try dsimp only)
      exact ⟨⟨cell_set hHeld.1.1 (by omega), cell_set hHeld.1.2 (by omega)⟩, by simpa [World.setCell] using hHeld.2.1, bel_set hHeld.2.2 (by omega)⟩
    clear hK K hHeld
    have hHeld := hHeld'
    clear hHeld'
    (try simp only [Act.put, List.getElem_toArray, List.getElem_cons_zero, List.getElem_cons_succ, List.setIfInBounds_toArray, List.set_cons_zero, List.set_cons_succ])
    have CC := set2_cells (v0 := Value.slice (some ⟨g0, 0, none⟩) ss.length ss.length) (v1 := Value.slice (some ⟨g7, 0, none⟩) UL UL) TH.out
    have y0 : (((w5.setCell ⟨w.heap.size + 1, 0, none⟩ (Value.slice (some ⟨g0, 0, none⟩) ss.length ss.length)).setCell ⟨w.heap.size + 1, 1, none⟩ (Value.slice (some ⟨g7, 0, none⟩) UL UL)).setCell ⟨w.heap.size + 1 + 1, 0, none⟩ (.int .i64 0)).cell? ⟨w.heap.size + 1, 0, none⟩ = some (Value.slice (some ⟨g0, 0, none⟩) ss.length ss.length) := cell_set CC.1 (by omega)
    have y1 : (((w5.setCell ⟨w.heap.size + 1, 0, none⟩ (Value.slice (some ⟨g0, 0, none⟩) ss.length ss.length)).setCell ⟨w.heap.size + 1, 1, none⟩ (Value.slice (some ⟨g7, 0, none⟩) UL UL)).setCell ⟨w.heap.size + 1 + 1, 0, none⟩ (.int .i64 0)).cell? ⟨w.heap.size + 1, 1, none⟩ = some (Value.slice (some ⟨g7, 0, none⟩) UL UL) := cell_set CC.2 (by omega)
    have y2 : (((w5.setCell ⟨w.heap.size + 1, 0, none⟩ (Value.slice (some ⟨g0, 0, none⟩) ss.length ss.length)).setCell ⟨w.heap.size + 1, 1, none⟩ (Value.slice (some ⟨g7, 0, none⟩) UL UL)).setCell ⟨w.heap.size + 1 + 1, 0, none⟩ (.int .i64 0)).cell? ⟨w.heap.size + 1 + 1, 0, none⟩ = some (.int .i64 0) := World.cell?_setCell_same _ _ _ s3
    have THX : Hid (Th2 (((w5.setCell ⟨w.heap.size + 1, 0, none⟩ (Value.slice (some ⟨g0, 0, none⟩) ss.length ss.length)).setCell ⟨w.heap.size + 1, 1, none⟩ (Value.slice (some ⟨g7, 0, none⟩) UL UL)).setCell ⟨w.heap.size + 1 + 1, 0, none⟩ (.int .i64 0)) (w.heap.size + 1)) := ⟨⟨⟨_, y0⟩, ⟨_, y1⟩⟩, by simpa using Z0, by simpa using Z1⟩
    have TCX : Hid (Th1 (((w5.setCell ⟨w.heap.size + 1, 0, none⟩ (Value.slice (some ⟨g0, 0, none⟩) ss.length ss.length)).setCell ⟨w.heap.size + 1, 1, none⟩ (Value.slice (some ⟨g7, 0, none⟩) UL UL)).setCell ⟨w.heap.size + 1 + 1, 0, none⟩ (.int .i64 0)) (w.heap.size + 1 + 1)) := ⟨⟨_, y2⟩, by simpa using Z2⟩
    have OO := own2_of C.out Nn.out NE.out
    have hzz : w.heap.size + 3 ≤ w5.heap.size := by simpa [World.setCell] using hHeld.2.1
    have OX : Hid (Own2 (((w5.setCell ⟨w.heap.size + 1, 0, none⟩ (Value.slice (some ⟨g0, 0, none⟩) ss.length ss.length)).setCell ⟨w.heap.size + 1, 1, none⟩ (Value.slice (some ⟨g7, 0, none⟩) UL UL)).setCell ⟨w.heap.size + 1 + 1, 0, none⟩ (.int .i64 0)) (Value.slice (some ⟨g0, 0, none⟩) ss.length ss.length) (Value.slice (some ⟨g7, 0, none⟩) UL UL) ss LS (w.heap.size + 3) w5.heap.size) := Own2.set (Own2.set (Own2.set OO (Or.inl (by omega))) (Or.inl (by omega))) (Or.inl (by omega))
    have HB9 : Hid (Below w.heap.size w (((w5.setCell ⟨w.heap.size + 1, 0, none⟩ (Value.slice (some ⟨g0, 0, none⟩) ss.length ss.length)).setCell ⟨w.heap.size + 1, 1, none⟩ (Value.slice (some ⟨g7, 0, none⟩) UL UL)).setCell ⟨w.heap.size + 1 + 1, 0, none⟩ (.int .i64 0))) := hHeld.2.2
    have D0 : Hid ((((w5.setCell ⟨w.heap.size + 1, 0, none⟩ (Value.slice (some ⟨g0, 0, none⟩) ss.length ss.length)).setCell ⟨w.heap.size + 1, 1, none⟩ (Value.slice (some ⟨g7, 0, none⟩) UL UL)).setCell ⟨w.heap.size + 1 + 1, 0, none⟩ (.int .i64 0)).cell? ⟨w.heap.size, 0, none⟩ = _ ∧ (((w5.setCell ⟨w.heap.size + 1, 0, none⟩ (Value.slice (some ⟨g0, 0, none⟩) ss.length ss.length)).setCell ⟨w.heap.size + 1, 1, none⟩ (Value.slice (some ⟨g7, 0, none⟩) UL UL)).setCell ⟨w.heap.size + 1 + 1, 0, none⟩ (.int .i64 0)).cell? ⟨w.heap.size, 1, none⟩ = _) := ⟨hHeld.1.1, hHeld.1.2⟩
    have HZ9 : Hid (w.heap.size + 3 ≤ w5.heap.size ∧ (((w5.setCell ⟨w.heap.size + 1, 0, none⟩ (Value.slice (some ⟨g0, 0, none⟩) ss.length ss.length)).setCell ⟨w.heap.size + 1, 1, none⟩ (Value.slice (some ⟨g7, 0, none⟩) UL UL)).setCell ⟨w.heap.size + 1 + 1, 0, none⟩ (.int .i64 0)).heap.size = w5.heap.size) := ⟨hzz, by simp⟩
    clear CC s2 s3 T0 T1 T2 Z0 Z1 Z2 OO C Nn NE TH TC hHeld hzz
    refine wpAnyH_done (by kernel_rfl) ?_ _
    refine ⟨fun c h => (by cases h), ?_⟩
    generalize (((w5.setCell ⟨w.heap.size + 1, 0, none⟩ (Value.slice (some ⟨g0, 0, none⟩) ss.length ss.length)).setCell ⟨w.heap.size + 1, 1, none⟩ (Value.slice (some ⟨g7, 0, none⟩) UL UL)).setCell ⟨w.heap.size + 1 + 1, 0, none⟩ (.int .i64 0)) = w8 at *
    go_wp2
    obtain rfl := HLL.out
    refine leaves_cons (f := 16) (args := #[.pointer (some ⟨w.heap.size + 1, 0, none⟩), .pointer (some ⟨w.heap.size, 0, none⟩), .pointer (some ⟨w.heap.size + 1 + 1, 0, none⟩)]) (by simp) (by simp [go_sem]) ?_
    refine (clo_full (w.heap.size + 1) w.heap.size (w.heap.size + 1 + 1) _ _ _ _ ss LS ss us w8 hn (by omega) hn hn' (by omega) (own_rowV OX.out.r0) (own_rowV OX.out.r1) (RA.out.next HB9.out) (RU.out.next HB9.out) y0 y1 D0.out.1 D0.out.2 THX.out TCX.out (by omega)).mono ?_
    rintro e u' w9 ⟨rfl, rfl, p0, k0, p1, k1, w2, hb, hO, rfl⟩
    have TH9 := THX.out.next hb
    have TC9 := TCX.out.next hb
    obtain ⟨⟨u2, T2⟩, Z2⟩ := TC9
    have CC := set2_cells (v0 := .slice p0 ss.length k0) (v1 := .slice p1 us.length k1) TH9
    have z0 : (((w2.setCell ⟨w.heap.size + 1, 0, none⟩ (.slice p0 ss.length k0)).setCell ⟨w.heap.size + 1, 1, none⟩ (.slice p1 us.length k1)).setCell ⟨w.heap.size + 1 + 1, 0, none⟩ (.int .i64 7)).cell? ⟨w.heap.size + 1, 0, none⟩ = some (.slice p0 ss.length k0) := cell_set CC.1 (by omega)
    have z1 : (((w2.setCell ⟨w.heap.size + 1, 0, none⟩ (.slice p0 ss.length k0)).setCell ⟨w.heap.size + 1, 1, none⟩ (.slice p1 us.length k1)).setCell ⟨w.heap.size + 1 + 1, 0, none⟩ (.int .i64 7)).cell? ⟨w.heap.size + 1, 1, none⟩ = some (.slice p1 us.length k1) := cell_set CC.2 (by omega)
    have z2 : (((w2.setCell ⟨w.heap.size + 1, 0, none⟩ (.slice p0 ss.length k0)).setCell ⟨w.heap.size + 1, 1, none⟩ (.slice p1 us.length k1)).setCell ⟨w.heap.size + 1 + 1, 0, none⟩ (.int .i64 7)).cell? ⟨w.heap.size + 1 + 1, 0, none⟩ = some (.int .i64 7) := World.cell?_setCell_same _ _ _ (cell_set (cell_set T2 (by omega)) (by omega))
    have hz9 := HZ9.out
    have hs9 := hb.size
    have B2 := (bel_next HB9 hb).out
    have B9 := bel_set (g := w.heap.size + 1 + 1) (o := 0) (u := .int .i64 7) (bel_set (g := w.heap.size + 1) (o := 1) (u := .slice p1 us.length k1) (bel_set (g := w.heap.size + 1) (o := 0) (u := .slice p0 ss.length k0) B2 (by omega)) (by omega)) (by omega)
    have O9 := Own2.set (g := w.heap.size + 1 + 1) (o := 0) (u := .int .i64 7) (Own2.set (g := w.heap.size + 1) (o := 1) (u := .slice p1 us.length k1) (Own2.set (g := w.heap.size + 1) (o := 0) (u := .slice p0 ss.length k0) hO (Or.inl (by omega))) (Or.inl (by omega))) (Or.inl (by omega))
    refine ⟨.tuple #[.agg #[.slice p0 ss.length k0, .slice p1 us.length k1], .int .i64 7], by simp [results, Tryd.results5, go_sem, z0, z1, z2], ?_⟩
    exact ⟨p0, k0, p1, k1, rfl, B9, O9.weak (by have := HB9.out.size; omega) (by simp)⟩
  · obtain ⟨e1, e2, e3⟩ := ap_ok (ss := ss) (us := us) hl (by omega)
    rw [e1, e2, e3, ← hq, ← hLS]
    clear e1 e2 e3 hUL hLS hq
    go_enter_defers Tryd.func5, Tryd.ntmps5
    go_wp2_with fail
    refine (implOK_any _ _ ss us _ hn hn' (RA.out.next B0.out) (RU.out.next B0.out)).mono ?_
    rintro e w1 ⟨rfl, hb⟩
    have HB : Hid (Below w.heap.size w w1) := bel_next B0 hb
    have hz := hb.size
    simp at hz
    have HZ : Hid (w.heap.size + 3 ≤ w1.heap.size) := (show _ ≤ _ by omega)
    have x0 : w1.cell? ⟨w.heap.size, 0, none⟩ = some (.slice ao ss.length c0) := cell_next hb (by go_simp) (by simp; omega)
    have x1 : w1.cell? ⟨w.heap.size, 1, none⟩ = some (.slice bo us.length c1) := cell_next hb (by go_simp) (by simp; omega)
    have TH : Hid (Th2 w1 (w.heap.size + 1)) := Th2.next ⟨⟨⟨.slice none 0 0, (by go_simp)⟩, ⟨.slice none 0 0, (by go_simp)⟩⟩, by go_simp, by go_simp⟩ hb
    have TC : Hid (Th1 w1 (w.heap.size + 1 + 1)) := Th1.next ⟨⟨.int .i64 0, (by go_simp)⟩, by go_simp⟩ hb
    clear hb hz
    rw [hd]
    go_wp2
    refine Code.wp_mono (Q := NoP _) (fun _ _ _ h => h.2) ?_
    refine wp_region_held_drew (S := (fun w' => (w'.cell? ⟨w.heap.size, 0, none⟩ = some (.slice ao ss.length c0) ∧ w'.cell? ⟨w.heap.size, 1, none⟩ = some (.slice bo us.length c1)) ∧ w.heap.size + 3 ≤ w'.heap.size ∧ Below w.heap.size w w')) (by kernel_rfl) ?_ (fun hHeld => ?_)
    · (try dsimp only)
      exact ⟨⟨cell_next (bel_drew _) x0 (cell_lt' x0), cell_next (bel_drew _) x1 (cell_lt' x1)⟩, HZ.out, (bel_next HB (bel_drew _)).out⟩
    refine wpAnyH_take (i := 0) (v := ?_) rfl (by kernel_rfl) (by kernel_rfl) (by kernel_rfl) (fun _ _ _ h => (h.1 _ rfl).elim) (Or.inl ⟨by rfl, ?_⟩) (by assumption) ?_
    rotate_left
    · intro w' hSw
      (try dsimp only at hSw)
      go_simp
      all_goals (try with_reducible rfl)
    (try simp only [Act.put, List.getElem_toArray, List.getElem_cons_zero, List.getElem_cons_succ, List.setIfInBounds_toArray, List.set_cons_zero, List.set_cons_succ])
    refine wpAnyH_take (i := 1) (v := ?_) rfl (by kernel_rfl) (by kernel_rfl) (by kernel_rfl) (fun _ _ _ h => (h.1 _ rfl).elim) (Or.inl ⟨by rfl, ?_⟩) (by assumption) ?_
    rotate_left
    · intro w' hSw
      (try dsimp only at hSw)
      go_simp
      all_goals (try with_reducible rfl)
    (try simp only [Act.put, List.getElem_toArray, List.getElem_cons_zero, List.getElem_cons_succ, List.setIfInBounds_toArray, List.set_cons_zero, List.set_cons_succ])
    refine wpAnyH_take (i := 3) (v := ?_) rfl (by kernel_rfl) (by kernel_rfl) (by kernel_rfl) (fun _ _ _ h => (h.1 _ rfl).elim) (Or.inl ⟨by rfl, ?_⟩) (by assumption) ?_
    rotate_left
    · intro w' hSw
      (try dsimp only at hSw)
      go_simp
      all_goals (try with_reducible rfl)
    (try simp only [Act.put, List.getElem_toArray, List.getElem_cons_zero, List.getElem_cons_succ, List.setIfInBounds_toArray, List.set_cons_zero, List.set_cons_succ])
    refine wpAnyH_take (i := 4) (v := ?_) rfl (by kernel_rfl) (by kernel_rfl) (by kernel_rfl) (fun _ _ _ h => (h.1 _ rfl).elim) (Or.inl ⟨by rfl, ?_⟩) (by assumption) ?_
    rotate_left
    · intro w' hSw
      (try dsimp only at hSw)
      go_simp
      all_goals (try with_reducible rfl)
    (try simp only [Act.put, List.getElem_toArray, List.getElem_cons_zero, List.getElem_cons_succ, List.setIfInBounds_toArray, List.set_cons_zero, List.set_cons_succ])
    refine wpAnyH_take (i := 5) (v := ?_) rfl (by kernel_rfl) (by kernel_rfl) (by kernel_rfl) (fun _ _ _ h => (h.1 _ rfl).elim) (Or.inl ⟨by rfl, ?_⟩) (by assumption) ?_
    rotate_left
    · intro w' hSw
      (try dsimp only at hSw)
      go_simp
      all_goals (try with_reducible rfl)
    (try simp only [Act.put, List.getElem_toArray, List.getElem_cons_zero, List.getElem_cons_succ, List.setIfInBounds_toArray, List.set_cons_zero, List.set_cons_succ])
    replace TH : Hid _ := TH.out.next (bel_drew _)
    replace TC : Hid _ := TC.out.next (bel_drew _)
    clear x0 x1
    generalize w1.drew = wd at *
    refine wpAnyH_ready (rs := [2]) (by kernel_rfl) (by simp) ?_
    refine AllReadyH.cons rfl (fun K hK => ?_) AllReadyH.nil
    (try simp only [Act.put, List.getElem_toArray, List.getElem_cons_zero, List.getElem_cons_succ, List.setIfInBounds_toArray, List.set_cons_zero, List.set_cons_succ])
    go_simp
    go_at_call 18
    refine Calls.mono (CL1.out _ (TA.out.next hHeld.2.2)) ?_
    rintro e w2 ⟨g0, rfl, hb, hg, hG, hO⟩
    have hz0 := hHeld.2.1
    refine hK.out _ _ ?_ (fun hHeld' => ?_)
    · (try dsimp only)
      exact ⟨⟨cell_next hb hHeld.1.1 (cell_lt' hHeld.1.1), cell_next hb hHeld.1.2 (cell_lt' hHeld.1.2)⟩, Nat.le_trans hHeld.2.1 (hb).size, (bel_next (w := w) hHeld.2.2 hb).out⟩
    clear hK K hHeld
    have hHeld := hHeld'
    clear hHeld'
    (try simp only [Act.put, List.getElem_toArray, List.getElem_cons_zero, List.getElem_cons_succ, List.setIfInBounds_toArray, List.set_cons_zero, List.set_cons_succ])
    replace TH : Hid _ := TH.out.next hb
    replace TC : Hid _ := TC.out.next hb
    have C : Hid (OwnT w2 (.slice (some ⟨g0, 0, none⟩) ss.length ss.length) ss (w.heap.size + 3)) := ⟨hO, fun k hk => by simp [Value.ownBlock] at hk; omega⟩
    clear hb hg hG hO hz0
    refine wpAnyH_ready (rs := [6]) (by kernel_rfl) (by simp) ?_
    refine AllReadyH.cons rfl (fun K hK => ?_) AllReadyH.nil
    (try simp only [Act.put, List.getElem_toArray, List.getElem_cons_zero, List.getElem_cons_succ, List.setIfInBounds_toArray, List.set_cons_zero, List.set_cons_succ])
    go_simp
    go_at_call 19
    refine Calls.mono (SE.out _ (TB.next (show TB w from HT.out) hHeld.2.2)) ?_
    rintro e w3 ⟨rfl, hb⟩
    refine hK.out _ _ ?_ (fun hHeld' => ?_)
    · (try dsimp only)
      exact ⟨⟨cell_next hb hHeld.1.1 (cell_lt' hHeld.1.1), cell_next hb hHeld.1.2 (cell_lt' hHeld.1.2)⟩, Nat.le_trans hHeld.2.1 (hb).size, (bel_next (w := w) hHeld.2.2 hb).out⟩
    clear hK K hHeld
    have hHeld := hHeld'
    clear hHeld'
    (try simp only [Act.put, List.getElem_toArray, List.getElem_cons_zero, List.getElem_cons_succ, List.setIfInBounds_toArray, List.set_cons_zero, List.set_cons_succ])
    replace TH : Hid _ := TH.out.next hb
    replace TC : Hid _ := TC.out.next hb
    replace C : Hid _ := C.out.next hb
    clear hb
    refine wpAnyH_ready (rs := [7]) (by kernel_rfl) (by simp) ?_
    refine AllReadyH.cons rfl (fun K hK => ?_) AllReadyH.nil
    (try simp only [Act.put, List.getElem_toArray, List.getElem_cons_zero, List.getElem_cons_succ, List.setIfInBounds_toArray, List.set_cons_zero, List.set_cons_succ])
    have hba := bel_alloc w3 (.cells #[.string q] 9)
    have R1 : Hid (TRow (w3.alloc (.cells #[.string q] 9)) (some ⟨w3.heap.size, 0, none⟩) [q]) := one_rowT
    go_simp
    (try simp only [])
    refine hK.out _ _ ?_ (fun hHeld' => ?_)
    · (try dsimp only)
      exact ⟨⟨cell_next hba hHeld.1.1 (cell_lt' hHeld.1.1), cell_next hba hHeld.1.2 (cell_lt' hHeld.1.2)⟩, Nat.le_trans hHeld.2.1 (hba).size, (bel_next (w := w) hHeld.2.2 hba).out⟩
    clear hK K hHeld
    have hHeld := hHeld'
    clear hHeld'
    (try simp only [Act.put, List.getElem_toArray, List.getElem_cons_zero, List.getElem_cons_succ, List.setIfInBounds_toArray, List.set_cons_zero, List.set_cons_succ])
    replace TH : Hid _ := TH.out.next hba
    replace TC : Hid _ := TC.out.next hba
    replace C : Hid _ := C.out.next hba
    clear hba
    generalize w3.alloc (.cells #[.string q] 9) = w4 at *
    generalize w3.heap.size = g3 at *
    refine wpAnyH_ready (rs := [8]) (by kernel_rfl) (by simp) ?_
    refine AllReadyH.cons rfl (fun K hK => ?_) AllReadyH.nil
    (try simp only [Act.put, List.getElem_toArray, List.getElem_cons_zero, List.getElem_cons_succ, List.setIfInBounds_toArray, List.set_cons_zero, List.set_cons_succ])
    go_simp
    go_at_call 18
    refine Calls.mono (CL2.out _ _ (TU.out.next hHeld.2.2) R1.out) ?_
    rintro e w5 ⟨g7, rfl, hb, hg, hG, hO⟩
    have hz0 := hHeld.2.1
    have NE : Hid (∀ k, (Value.slice (some ⟨g0, 0, none⟩) ss.length ss.length).ownBlock = some k → (Value.slice (some ⟨g7, 0, none⟩) UL UL).ownBlock ≠ some k) := fun k e e_ => by have h1 := (C.out.own.lt _ e).2; simp [Value.ownBlock] at e_; omega
    refine hK.out _ _ ?_ (fun hHeld' => ?_)
    · (try dsimp only)
      exact ⟨⟨cell_next hb hHeld.1.1 (cell_lt' hHeld.1.1), cell_next hb hHeld.1.2 (cell_lt' hHeld.1.2)⟩, Nat.le_trans hHeld.2.1 (hb).size, (bel_next (w := w) hHeld.2.2 hb).out⟩
    clear hK K hHeld
    have hHeld := hHeld'
    clear hHeld'
    (try simp only [Act.put, List.getElem_toArray, List.getElem_cons_zero, List.getElem_cons_succ, List.setIfInBounds_toArray, List.set_cons_zero, List.set_cons_succ])
    replace TH : Hid _ := TH.out.next hb
    replace TC : Hid _ := TC.out.next hb
    replace C : Hid _ := C.out.next hb
    have Nn : Hid (OwnT w5 (.slice (some ⟨g7, 0, none⟩) UL UL) LS (w.heap.size + 3)) := ⟨by rw [← HUL.out]; exact hO, fun k hk => by simp [Value.ownBlock] at hk; omega⟩
    clear hb hg hG hO hz0 R1
    refine wpAnyH_take (i := 9) (v := ?_) rfl (by kernel_rfl) (by kernel_rfl) (by kernel_rfl) (fun _ _ _ h => (h.1 _ rfl).elim) (Or.inl ⟨by rfl, ?_⟩) (by assumption) ?_
    rotate_left
    · intro w' hSw
      (try dsimp only at hSw)
      go_simp
      all_goals (try with_reducible rfl)
    (try simp only [Act.put, List.getElem_toArray, List.getElem_cons_zero, List.getElem_cons_succ, List.setIfInBounds_toArray, List.set_cons_zero, List.set_cons_succ])
    obtain ⟨⟨⟨u0, T0⟩, ⟨u1, T1⟩⟩, Z0, Z1⟩ := TH.out
    obtain ⟨⟨u2, T2⟩, Z2⟩ := TC.out
    refine wpAnyH_ready (rs := [10]) (by kernel_rfl) (by simp) ?_
    refine AllReadyH.cons rfl (fun K hK => ?_) AllReadyH.nil
    (try simp only [Act.put, List.getElem_toArray, List.getElem_cons_zero, List.getElem_cons_succ, List.setIfInBounds_toArray, List.set_cons_zero, List.set_cons_succ])
    go_simp
    (try simp only [])
    refine hK.out _ _ ?_ (fun hHeld' => ?_)
    · (try dsimp only)
      exact ⟨⟨cell_set (cell_set hHeld.1.1 (by omega)) (by omega), cell_set (cell_set hHeld.1.2 (by omega)) (by omega)⟩, by simpa [World.setCell] using hHeld.2.1, bel_set (bel_set hHeld.2.2 (by omega)) (by omega)⟩
    clear hK K hHeld
    have hHeld := hHeld'
    clear hHeld'
    (try simp only [Act.put, List.getElem_toArray, List.getElem_cons_zero, List.getElem_cons_succ, List.setIfInBounds_toArray, List.set_cons_zero, List.set_cons_succ])
    have s2 := cell_set (t := w.heap.size + 1) (j := 0) (u := Value.slice (some ⟨g0, 0, none⟩) ss.length ss.length) T2 (by omega)
    have s3 := cell_set (t := w.heap.size + 1) (j := 1) (u := Value.slice (some ⟨g7, 0, none⟩) UL UL) s2 (by omega)
    refine wpAnyH_ready (rs := [11]) (by kernel_rfl) (by simp) ?_
    refine AllReadyH.cons rfl (fun K hK => ?_) AllReadyH.nil
    (try simp only [Act.put, List.getElem_toArray, List.getElem_cons_zero, List.getElem_cons_succ, List.setIfInBounds_toArray, List.set_cons_zero, List.set_cons_succ])
    go_simp
    (try simp only [])
    refine hK.out _ _ ?_ (fun hHeld' => ?_)
    · (try dsimp only)
      exact ⟨⟨cell_set hHeld.1.1 (by omega), cell_set hHeld.1.2 (by omega)⟩, by simpa [World.setCell] using hHeld.2.1, bel_set hHeld.2.2 (by omega)⟩
    clear hK K hHeld
    have hHeld := hHeld'
    clear hHeld'
    (try simp only [Act.put, List.getElem_toArray, List.getElem_cons_zero, List.getElem_cons_succ, List.setIfInBounds_toArray, List.set_cons_zero, List.set_cons_succ])
    have CC := set2_cells (v0 := Value.slice (some ⟨g0, 0, none⟩) ss.length ss.length) (v1 := Value.slice (some ⟨g7, 0, none⟩) UL UL) TH.out
    have y0 : (((w5.setCell ⟨w.heap.size + 1, 0, none⟩ (Value.slice (some ⟨g0, 0, none⟩) ss.length ss.length)).setCell ⟨w.heap.size + 1, 1, none⟩ (Value.slice (some ⟨g7, 0, none⟩) UL UL)).setCell ⟨w.heap.size + 1 + 1, 0, none⟩ (.int .i64 0)).cell? ⟨w.heap.size + 1, 0, none⟩ = some (Value.slice (some ⟨g0, 0, none⟩) ss.length ss.length) := cell_set CC.1 (by omega)
    have y1 : (((w5.setCell ⟨w.heap.size + 1, 0, none⟩ (Value.slice (some ⟨g0, 0, none⟩) ss.length ss.length)).setCell ⟨w.heap.size + 1, 1, none⟩ (Value.slice (some ⟨g7, 0, none⟩) UL UL)).setCell ⟨w.heap.size + 1 + 1, 0, none⟩ (.int .i64 0)).cell? ⟨w.heap.size + 1, 1, none⟩ = some (Value.slice (some ⟨g7, 0, none⟩) UL UL) := cell_set CC.2 (by omega)
    have y2 : (((w5.setCell ⟨w.heap.size + 1, 0, none⟩ (Value.slice (some ⟨g0, 0, none⟩) ss.length ss.length)).setCell ⟨w.heap.size + 1, 1, none⟩ (Value.slice (some ⟨g7, 0, none⟩) UL UL)).setCell ⟨w.heap.size + 1 + 1, 0, none⟩ (.int .i64 0)).cell? ⟨w.heap.size + 1 + 1, 0, none⟩ = some (.int .i64 0) := World.cell?_setCell_same _ _ _ s3
    have THX : Hid (Th2 (((w5.setCell ⟨w.heap.size + 1, 0, none⟩ (Value.slice (some ⟨g0, 0, none⟩) ss.length ss.length)).setCell ⟨w.heap.size + 1, 1, none⟩ (Value.slice (some ⟨g7, 0, none⟩) UL UL)).setCell ⟨w.heap.size + 1 + 1, 0, none⟩ (.int .i64 0)) (w.heap.size + 1)) := ⟨⟨⟨_, y0⟩, ⟨_, y1⟩⟩, by simpa using Z0, by simpa using Z1⟩
    have TCX : Hid (Th1 (((w5.setCell ⟨w.heap.size + 1, 0, none⟩ (Value.slice (some ⟨g0, 0, none⟩) ss.length ss.length)).setCell ⟨w.heap.size + 1, 1, none⟩ (Value.slice (some ⟨g7, 0, none⟩) UL UL)).setCell ⟨w.heap.size + 1 + 1, 0, none⟩ (.int .i64 0)) (w.heap.size + 1 + 1)) := ⟨⟨_, y2⟩, by simpa using Z2⟩
    have OO := own2_of C.out Nn.out NE.out
    have hzz : w.heap.size + 3 ≤ w5.heap.size := by simpa [World.setCell] using hHeld.2.1
    have OX : Hid (Own2 (((w5.setCell ⟨w.heap.size + 1, 0, none⟩ (Value.slice (some ⟨g0, 0, none⟩) ss.length ss.length)).setCell ⟨w.heap.size + 1, 1, none⟩ (Value.slice (some ⟨g7, 0, none⟩) UL UL)).setCell ⟨w.heap.size + 1 + 1, 0, none⟩ (.int .i64 0)) (Value.slice (some ⟨g0, 0, none⟩) ss.length ss.length) (Value.slice (some ⟨g7, 0, none⟩) UL UL) ss LS (w.heap.size + 3) w5.heap.size) := Own2.set (Own2.set (Own2.set OO (Or.inl (by omega))) (Or.inl (by omega))) (Or.inl (by omega))
    have HB9 : Hid (Below w.heap.size w (((w5.setCell ⟨w.heap.size + 1, 0, none⟩ (Value.slice (some ⟨g0, 0, none⟩) ss.length ss.length)).setCell ⟨w.heap.size + 1, 1, none⟩ (Value.slice (some ⟨g7, 0, none⟩) UL UL)).setCell ⟨w.heap.size + 1 + 1, 0, none⟩ (.int .i64 0))) := hHeld.2.2
    have D0 : Hid ((((w5.setCell ⟨w.heap.size + 1, 0, none⟩ (Value.slice (some ⟨g0, 0, none⟩) ss.length ss.length)).setCell ⟨w.heap.size + 1, 1, none⟩ (Value.slice (some ⟨g7, 0, none⟩) UL UL)).setCell ⟨w.heap.size + 1 + 1, 0, none⟩ (.int .i64 0)).cell? ⟨w.heap.size, 0, none⟩ = _ ∧ (((w5.setCell ⟨w.heap.size + 1, 0, none⟩ (Value.slice (some ⟨g0, 0, none⟩) ss.length ss.length)).setCell ⟨w.heap.size + 1, 1, none⟩ (Value.slice (some ⟨g7, 0, none⟩) UL UL)).setCell ⟨w.heap.size + 1 + 1, 0, none⟩ (.int .i64 0)).cell? ⟨w.heap.size, 1, none⟩ = _) := ⟨hHeld.1.1, hHeld.1.2⟩
    have HZ9 : Hid (w.heap.size + 3 ≤ w5.heap.size ∧ (((w5.setCell ⟨w.heap.size + 1, 0, none⟩ (Value.slice (some ⟨g0, 0, none⟩) ss.length ss.length)).setCell ⟨w.heap.size + 1, 1, none⟩ (Value.slice (some ⟨g7, 0, none⟩) UL UL)).setCell ⟨w.heap.size + 1 + 1, 0, none⟩ (.int .i64 0)).heap.size = w5.heap.size) := ⟨hzz, by simp⟩
    clear CC s2 s3 T0 T1 T2 Z0 Z1 Z2 OO C Nn NE TH TC hHeld hzz
    refine wpAnyH_done (by kernel_rfl) ?_ _
    refine ⟨fun c h => (by cases h), ?_⟩
    generalize (((w5.setCell ⟨w.heap.size + 1, 0, none⟩ (Value.slice (some ⟨g0, 0, none⟩) ss.length ss.length)).setCell ⟨w.heap.size + 1, 1, none⟩ (Value.slice (some ⟨g7, 0, none⟩) UL UL)).setCell ⟨w.heap.size + 1 + 1, 0, none⟩ (.int .i64 0)) = w8 at *
    go_wp2
    obtain rfl := HLL.out
    refine leaves_cons (f := 16) (args := #[.pointer (some ⟨w.heap.size + 1, 0, none⟩), .pointer (some ⟨w.heap.size, 0, none⟩), .pointer (some ⟨w.heap.size + 1 + 1, 0, none⟩)]) (by simp) (by simp [go_sem]) ?_
    refine (clo_ok (w.heap.size + 1) w.heap.size (w.heap.size + 1 + 1) _ _ ss LS w8 hn (by omega) (by omega) (own_rowV OX.out.r0) (own_rowV OX.out.r1) y0 y1).mono ?_
    rintro e u' w9 ⟨rfl, rfl, hb⟩
    have z0 := cell_next hb y0 (cell_lt' y0)
    have z1 := cell_next hb y1 (cell_lt' y1)
    have z2 := cell_next hb y2 (cell_lt' y2)
    refine ⟨.tuple #[.agg #[Value.slice (some ⟨g0, 0, none⟩) ss.length ss.length, Value.slice (some ⟨g7, 0, none⟩) LS.length LS.length], .int .i64 0], by simp [results, Tryd.results5, go_sem, z0, z1, z2], ?_⟩
    refine ⟨_, _, _, _, rfl, (bel_next HB9 hb).out, (OX.out.next hb).weak (by omega) (by have := HZ9.out; have := hb.size; omega)⟩
end Go.Proofs.YthblnifapkfbcaaDoor

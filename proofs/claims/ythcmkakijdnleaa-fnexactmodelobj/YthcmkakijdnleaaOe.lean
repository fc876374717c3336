/- Objects in the laws. -/
import Derived.Test.YthcmkakijdnleaaRows
import Derived.WalkKit
import Derived.WalkSpells
import Derived.WalkLawsBesides
import Derived.Deep.QuietTactic
import Derived.BigQuiet
import Derived.Deep.RegionHeld3
import Derived.Test.YthcmkakijdnleaaOd
import Derived.LoopN
import Derived.OwnWalk
import Derived.Laws.StructEq
namespace Go.Proofs.Ythcmkakijdnleaa
open Go.RowKit
set_option linter.unusedSimpArgs false
set_option linter.unusedVariables false

/-- A row of siblings that bears its marks. -/
def MS (lo : Nat) (w : World) (p : Option Addr) (n : Nat) : Prop := n = 0 ∨ ∃ g, p = some ⟨g, 0, none⟩ ∧ lo ≤ g ∧ g < w.heap.size ∧ ∀ i, i < n → SMk w g i
theorem MS.next {lo : Nat} {w w' : World} {p : Option Addr} {n : Nat} (h : MS lo w p n) (hb : Below w.heap.size w w') : MS lo w' p n := by
  rcases h with h | ⟨g, h1, h2, h3, h4⟩
  · exact .inl h
  · exact .inr ⟨g, h1, h2, Nat.lt_of_lt_of_le h3 hb.size, fun i hi => (h4 i hi).next hb h3⟩
set_option maxHeartbeats 1000000 in
theorem markSs_zero (p : Option Addr) (q : Nat) (w : World) : Calls Try.prog 48 #[.slice p 0 q, .int .i64 1] w fun e w' => e = .returned (.int .i64 1) ∧ w' = w := by
  go_enter Try.func48, Try.ntmps48
  go_wp2
  refine wp_loop_rounds 1 ?_
  repeat (rw [rounds_succ]; go_wp2)
  go_ret
  exact ⟨rfl, rfl⟩
set_option maxHeartbeats 1000000 in
theorem heldSs_zero (p : Option Addr) (q : Nat) (w : World) : Calls Try.prog 49 #[.slice p 0 q, .int .i64 1] w fun e w' => e = .returned (.int .i64 1) ∧ w' = w := by
  go_enter Try.func49, Try.ntmps49
  go_wp2
  refine wp_loop_rounds 1 ?_
  repeat (rw [rounds_succ]; go_wp2)
  go_ret
  exact ⟨rfl, rfl⟩
/-- The block of a row that is not empty. -/
def MB (p : Option Addr) (n : Nat) : Nat → Prop := fun b => n ≠ 0 ∧ p = some ⟨b, 0, none⟩
theorem SR.mb {lo : Nat} {w : World} {p : Option Addr} {ss : List Sb} (h : SR lo w p ss) {b : Nat} (hb : MB p ss.length b) : lo ≤ b ∧ b < w.heap.size := by
  obtain ⟨h0, rfl⟩ := hb
  rcases h.wr with h1 | ⟨g, h1, h2, h3, _⟩
  · rw [h1] at h0; exact absurd rfl h0
  · cases h1; exact ⟨h2, h3⟩
theorem markSs_sr (lo q n : Nat) (p : Option Addr) (ss : List Sb) (w : World) (hn : n = ss.length) (hn2 : n ≤ 1048576) (hS : SR lo w p ss) :
    Calls Try.prog 48 #[.slice p n q, .int .i64 1] w fun e w' => e = .returned (.int .i64 (1 + 4 * (n : Int))) ∧ Kp (MB p n) w w' ∧ MS lo w' p n := by
  rcases hS.wr with h | ⟨g, rfl, h1, h2, h3⟩
  · have h0 : n = 0 := by rw [hn, h]; rfl
    subst h0
    exact (markSs_zero p q w).mono fun e w' ⟨he, hw⟩ => ⟨by rw [he]; rfl, by rw [hw]; exact Kp.of_below (Below.refl _ _), .inl rfl⟩
  · rw [← hn] at h3
    by_cases h0 : n = 0
    · subst h0
      exact (markSs_zero (some ⟨g, 0, none⟩) q w).mono fun e w' ⟨he, hw⟩ => ⟨by rw [he]; rfl, by rw [hw]; exact Kp.of_below (Below.refl _ _), .inl rfl⟩
    refine (markSs_any g q n w hn2 h3 h2).mono fun e w' ⟨⟨c, he, hc⟩, hg, hM⟩ => ⟨by rw [he, hc], (Kp.of_below (E := MB (some ⟨g, 0, none⟩) n) (Below.refl w.heap.size w)).trans (Kp.of_grown hg) (fun _ _ h => h) (fun x _ h => ⟨h0, by rw [h]⟩), .inr ⟨g, rfl, h1, Nat.lt_of_lt_of_le h2 hg.size, hM⟩⟩
theorem heldSs_ms (lo q n : Nat) (p : Option Addr) (w : World) (hn2 : n ≤ 1048576) (hS : MS lo w p n) :
    Calls Try.prog 49 #[.slice p n q, .int .i64 1] w fun e w' => e = .returned (.int .i64 (1 + 4 * (n : Int))) ∧ w' = w := by
  rcases hS with h | ⟨g, rfl, h1, h2, h3⟩
  · subst h
    exact (heldSs_zero p q w).mono fun e w' ⟨he, hw⟩ => ⟨by rw [he]; rfl, hw⟩
  · exact (heldSs_any g q n w hn2 h3).mono fun e w' ⟨⟨c, he, hc⟩, hw⟩ => ⟨by rw [he, hc], hw⟩
set_option maxRecDepth 20000 in
set_option maxHeartbeats 2000000 in
theorem eqObj_same (lo lo2 q q2 n : Nat) (p p2 : Option Addr) (ms : List Sb) (a b c : Int) (w : World) (hl : ms.length = n) (hm : (n : Int) ≤ 1048576) (hr0 : GRow lo w p (flatS ms)) (hs0 : GRow lo2 w p2 (flatS ms)) :
    Calls Try.prog 17 #[.agg #[.slice p n q, .int .i64 a, .int .i64 b, .int .i64 c], .agg #[.slice p2 n q2, .int .i64 a, .int .i64 b, .int .i64 c]] w fun e w' => e = .returned (.bool true) ∧ Below w.heap.size w w' := by
  have hR : Hid (ms.length = n ∧ GRow lo w p (flatS ms) ∧ GRow lo2 w p2 (flatS ms)) := ⟨hl, hr0, hs0⟩
  clear hl hr0 hs0
  have hb0 : Hid (∀ o1 o2, Below w.heap.size w ((w.alloc o1).alloc o2)) := fun o1 o2 => ((Below.refl _ _).alloc (Nat.le_refl _) _).alloc (by simp) _
  go_enter Try.func17, Try.ntmps17
  go_upto_region 1 with fail
  refine wp_gen (fun W => Box W w.heap.size [.slice p n q, .int .i64 a, .int .i64 b, .int .i64 c] ∧ Box W (w.heap.size + 1) [.slice p2 n q2, .int .i64 a, .int .i64 b, .int .i64 c] ∧ Below w.heap.size w W) ⟨box_mk.next (bel_alloc _ _), ?_, hb0.out _ _⟩ (fun W0 hI => ?_)
  · have := box_mk (W := w.alloc (.cells #[.slice p n q, .int .i64 a, .int .i64 b, .int .i64 c] 40)) (t := 40) (vs := [.slice p2 n q2, .int .i64 a, .int .i64 b, .int .i64 c])
    simpa using this
  have Y : Hid (Box W0 w.heap.size [.slice p n q, .int .i64 a, .int .i64 b, .int .i64 c] ∧ Box W0 (w.heap.size + 1) [.slice p2 n q2, .int .i64 a, .int .i64 b, .int .i64 c] ∧ Below w.heap.size w W0) := hI
  clear hI hb0
  obtain ⟨a0, a1, a2, a3⟩ := Y.out.1.c4
  obtain ⟨b0, b1, b2, b3⟩ := Y.out.2.1.c4
  go_wp2_with fail
  refine (eqSs_same lo lo2 q q2 n p p2 ms W0 hR.out.1 hm (hR.out.2.1.next Y.out.2.2) (hR.out.2.2.next Y.out.2.2)).mono ?_
  rintro e1 W1 ⟨rfl, hb⟩
  replace Y : Hid (Box W1 w.heap.size [.slice p n q, .int .i64 a, .int .i64 b, .int .i64 c] ∧ Box W1 (w.heap.size + 1) [.slice p2 n q2, .int .i64 a, .int .i64 b, .int .i64 c] ∧ Below w.heap.size w W1) := ⟨Y.out.1.next hb, Y.out.2.1.next hb, Y.out.2.2.trans (hb.mono Y.out.2.2.size)⟩
  clear hb a0 a1 a2 a3 b0 b1 b2 b3 hR
  obtain ⟨a0, a1, a2, a3⟩ := Y.out.1.c4
  obtain ⟨b0, b1, b2, b3⟩ := Y.out.2.1.c4
  go_wp2_with fail
  refine (eqVv_same a b c _).mono ?_
  rintro e1 W2 ⟨rfl, hb⟩
  have hB : Hid (Below w.heap.size w W2) := Y.out.2.2.trans (hb.mono Y.out.2.2.size)
  clear hb Y a0 a1 a2 a3 b0 b1 b2 b3
  go_wp2
  go_ret
  exact ⟨rfl, hB.out⟩
set_option maxHeartbeats 2000000 in
theorem markO_any (lo q n : Nat) (p : Option Addr) (ss : List Sb) (a b c : Int) (w : World) (hn : n = ss.length) (hn2 : n ≤ 1048576) (hS0 : SR lo w p ss) :
    Calls Try.prog 19 #[.agg #[.slice p n q, .int .i64 a, .int .i64 b, .int .i64 c], .int .i64 1] w fun e w' => e = .returned (.int .i64 (1 + 4 * (n : Int))) ∧ Kp (MB p n) w w' ∧ MS lo w' p n := by
  have hS : Hid (n = ss.length ∧ SR lo w p ss) := ⟨hn, hS0⟩
  clear hn hS0
  go_enter Try.func19, Try.ntmps19
  go_wp2_with fail
  refine (markSs_sr lo q n p ss _ hS.out.1 hn2 (hS.out.2.next (bel_alloc _ _))).mono ?_
  rintro e W1 ⟨rfl, hk, hM⟩
  have HK : Hid (Kp (MB p n) w W1 ∧ MS lo W1 p n) := ⟨(Kp.of_below (E := MB p n) (bel_alloc _ _)).trans hk (fun _ _ h => h) (fun _ _ h => h), hM⟩
  clear hk hM
  generalize hMM : 1 + 4 * (n : Int) = M at *
  have HME : Hid (M = 1 + 4 * (n : Int)) := hMM.symm
  clear hMM
  go_wp2
  go_ret
  exact ⟨congrArg (fun x => Ending.returned (.int .i64 x)) HME.out, HK.out⟩
set_option maxHeartbeats 2000000 in
theorem heldO_any (lo q n : Nat) (p : Option Addr) (a b c : Int) (w : World) (hn2 : n ≤ 1048576) (hS0 : MS lo w p n) :
    Calls Try.prog 20 #[.agg #[.slice p n q, .int .i64 a, .int .i64 b, .int .i64 c], .int .i64 1] w fun e w' => e = .returned (.int .i64 (1 + 4 * (n : Int))) ∧ Below w.heap.size w w' := by
  have hS : Hid (MS lo w p n) := hS0
  clear hS0
  go_enter Try.func20, Try.ntmps20
  go_wp2_with fail
  refine (heldSs_ms lo q n p _ hn2 (hS.out.next (bel_alloc _ _))).mono ?_
  rintro e W1 ⟨rfl, hw⟩
  have HB : Hid (Below w.heap.size w W1) := by rw [hw]; exact bel_alloc _ _
  clear hw
  have hM0 : ¬ (1 + 4 * (n : Int)) < 0 := by omega
  generalize hMM : 1 + 4 * (n : Int) = M at *
  have HME : Hid (M = 1 + 4 * (n : Int)) := hMM.symm
  clear hMM
  go_wp2
  go_ret
  exact ⟨congrArg (fun x => Ending.returned (.int .i64 x)) HME.out, HB.out⟩
end Go.Proofs.Ythcmkakijdnleaa

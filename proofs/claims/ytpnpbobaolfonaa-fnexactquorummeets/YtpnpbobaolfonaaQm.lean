/- QuorumMeets of both sides, and its law. -/
import Derived.Test.YtpnpbobaolfonaaRows
import Derived.WalkKit
import Derived.WalkSpells
import Derived.WalkLawsBesides
import Derived.Deep.QuietTactic
import Derived.BigQuiet
import Derived.Deep.RegionHeld3
import Derived.LoopN
namespace Go.Proofs.Ytpnpbobaolfonaa
open Go.RowKit
set_option linter.unusedSimpArgs false
set_option linter.unusedVariables false

theorem ret_bool {a b : Bool} (h : a = b) : Ending.returned (.bool a) = .returned (.bool b) := by rw [h]
theorem ret_int {k : IntKind} {a b : Int} (h : a = b) : Ending.returned (.int k a) = .returned (.int k b) := by rw [h]
theorem ret_ints {a b c d : Int} (h : a = b) (k : c = d) : Ending.returned (.tuple #[.int .i64 a, .int .i64 c]) = .returned (.tuple #[.int .i64 b, .int .i64 d]) := by rw [h, k]
theorem ret_bint {a b : Bool} {c d : Int} (h : a = b) (k : c = d) : Ending.returned (.tuple #[.bool a, .int .i64 c]) = .returned (.tuple #[.bool b, .int .i64 d]) := by rw [h, k]
theorem ret_vint {a b c a' b' c' : Int} {r r' : Int} (h : a = a') (k : b = b') (l : c = c') (m : r = r') : Ending.returned (.tuple #[.agg #[.int .i64 a, .int .i64 b, .int .i64 c], .int .i64 r]) = .returned (.tuple #[.agg #[.int .i64 a', .int .i64 b', .int .i64 c'], .int .i64 r']) := by rw [h, k, l, m]
theorem ret_v {a b c a' b' c' : Int} (h : a = a') (k : b = b') (l : c = c') : Ending.returned (.agg #[.int .i64 a, .int .i64 b, .int .i64 c]) = .returned (.agg #[.int .i64 a', .int .i64 b', .int .i64 c']) := by rw [h, k, l]
theorem bcell {W w1 : World} (hb : Below W.heap.size W w1) : (∀ b o, b < W.heap.size → w1.cell? ⟨b, o, none⟩ = W.cell? ⟨b, o, none⟩) ∧ (∀ b o, b < W.heap.size → w1.frozen? ⟨b, o, none⟩ = W.frozen? ⟨b, o, none⟩) :=
  ⟨fun b o h => hb.cell (p := ⟨b, o, none⟩) h, fun b o h => hb.frozen (p := ⟨b, o, none⟩) h⟩
theorem cell_next {W w1 : World} (hb : Below W.heap.size W w1) {b o : Nat} {v : Value} (h : W.cell? ⟨b, o, none⟩ = some v) (hs : b < W.heap.size) : w1.cell? ⟨b, o, none⟩ = some v := by
  rw [hb.cell (p := ⟨b, o, none⟩) hs]; exact h
theorem cell_set {W : World} {b o t j : Nat} {v u : Value} (h : W.cell? ⟨b, o, none⟩ = some v) (hne : b ≠ t) : (W.setCell ⟨t, j, none⟩ u).cell? ⟨b, o, none⟩ = some v := by
  rw [World.cell?_of_block (w := W) (Below.heap_setCell W ⟨t, j, none⟩ u b (by simpa using hne))]; exact h
theorem frozen_next {W w1 : World} (hb : Below W.heap.size W w1) {b o : Nat} (h : W.frozen? ⟨b, o, none⟩ = false) (hs : b < W.heap.size) : w1.frozen? ⟨b, o, none⟩ = false := by
  rw [hb.frozen (p := ⟨b, o, none⟩) hs]; exact h

theorem in_any (n lo hi : Int) (w : World) :
    Calls Try.prog 6 #[.int .i64 n, .int .i64 lo, .int .i64 hi] w fun e w' => e = .returned (.bool (decide (lo ≤ n) && decide (n ≤ hi))) ∧ Below w.heap.size w w' := by
  by_cases h1 : lo ≤ n <;> by_cases h2 : n ≤ hi
  all_goals
    have e1 : Hid (decide (lo ≤ n) = true ↔ lo ≤ n) := ⟨fun h => of_decide_eq_true h, fun h => decide_eq_true h⟩
    go_enter Try.func6, Try.ntmps6
    go_wp2
    go_ret
    exact ⟨ret_bool (by simp [h1, h2]), Below.refl _ _⟩
theorem in_yes (n lo hi : Int) (w : World) (h1 : lo ≤ n) (h2 : n ≤ hi) :
    Calls Try.prog 6 #[.int .i64 n, .int .i64 lo, .int .i64 hi] w fun e w' => e = .returned (.bool true) ∧ Below w.heap.size w w' := by
  refine (in_any n lo hi w).mono ?_
  rintro e w1 ⟨rfl, hb⟩
  exact ⟨ret_bool (by simp [h1, h2]), hb⟩
theorem in_no (n lo hi : Int) (w : World) (h : n < lo ∨ hi < n) :
    Calls Try.prog 6 #[.int .i64 n, .int .i64 lo, .int .i64 hi] w fun e w' => e = .returned (.bool false) ∧ Below w.heap.size w w' := by
  refine (in_any n lo hi w).mono ?_
  rintro e w1 ⟨rfl, hb⟩
  exact ⟨ret_bool (by rcases h with h | h <;> simp <;> omega), hb⟩
def QmOK (n r m : Int) : Prop := (1 ≤ n ∧ n ≤ 100) ∧ (0 ≤ r ∧ r ≤ n) ∧ (0 ≤ m ∧ m ≤ n)
/-- What QuorumMeets answers: whether r and m together are above n, and a code. -/
def QmA (n r m : Int) (b : Bool) (c : Int) : Prop := (QmOK n r m ∧ b = decide (n < r + m) ∧ c = 0) ∨ (¬ QmOK n r m ∧ b = false ∧ c = 4)

set_option maxHeartbeats 2000000 in
theorem specQm_any (n r m : Int) (b : Bool) (c : Int) (hq : QmA n r m b c) (w : World) :
    Calls Try.prog 4 #[.int .i64 n, .int .i64 r, .int .i64 m] w fun e w' => e = .returned (.tuple #[.bool b, .int .i64 c]) ∧ Below w.heap.size w w' := by
  rcases hq with ⟨⟨⟨n1, n2⟩, ⟨r1, r2⟩, m1, m2⟩, rfl, rfl⟩ | ⟨hn, rfl, rfl⟩
  · have q : IntKind.i64.wrap (r + m) = r + m := by rw [IntKind.wrap_i64]; omega
    have C1 : Hid _ := fun w => in_yes n 1 100 w n1 n2
    have C2 : Hid _ := fun w => in_yes r 0 n w r1 r2
    have C3 : Hid _ := fun w => in_yes m 0 n w m1 m2
    clear n1 n2 r1 r2 m1 m2
    go_enter Try.func4, Try.ntmps4
    go_wp2_with fail
    refine (Calls.mono (C1.out _) ?_)
    rintro e w1 ⟨rfl, hb1⟩
    go_wp2_with fail
    refine (Calls.mono (C2.out _) ?_)
    rintro e w2 ⟨rfl, hb2⟩
    go_wp2_with fail
    refine (Calls.mono (C3.out _) ?_)
    rintro e w3 ⟨rfl, hb3⟩
    go_wp2
    go_ret2
    exact ⟨by first | rfl | simp, hb1.trans ((hb2.trans (hb3.mono hb2.size)).mono hb1.size)⟩
  · by_cases k1 : 1 ≤ n ∧ n ≤ 100
    · have C1 : Hid _ := fun w => in_yes n 1 100 w k1.1 k1.2
      by_cases k2 : 0 ≤ r ∧ r ≤ n
      · have C2 : Hid _ := fun w => in_yes r 0 n w k2.1 k2.2
        have C3 : Hid _ := fun w => in_no m 0 n w (by by_cases h : m < 0; exact .inl h; exact .inr (by by_cases g : n < m; exact g; exact (hn ⟨k1, k2, by omega, by omega⟩).elim))
        clear hn k1 k2
        go_enter Try.func4, Try.ntmps4
        go_wp2_with fail
        refine (Calls.mono (C1.out _) ?_)
        rintro e w1 ⟨rfl, hb1⟩
        go_wp2_with fail
        refine (Calls.mono (C2.out _) ?_)
        rintro e w2 ⟨rfl, hb2⟩
        go_wp2_with fail
        refine (Calls.mono (C3.out _) ?_)
        rintro e w3 ⟨rfl, hb3⟩
        go_wp2
        go_ret2
        exact ⟨by first | rfl | simp, hb1.trans ((hb2.trans (hb3.mono hb2.size)).mono hb1.size)⟩
      · have C2 : Hid _ := fun w => in_no r 0 n w (by omega)
        clear hn k1 k2
        go_enter Try.func4, Try.ntmps4
        go_wp2_with fail
        refine (Calls.mono (C1.out _) ?_)
        rintro e w1 ⟨rfl, hb1⟩
        go_wp2_with fail
        refine (Calls.mono (C2.out _) ?_)
        rintro e w2 ⟨rfl, hb2⟩
        go_wp2
        go_ret2
        exact ⟨by first | rfl | simp, hb1.trans (hb2.mono hb1.size)⟩
    · have C1 : Hid _ := fun w => in_no n 1 100 w (by omega)
      clear hn k1
      go_enter Try.func4, Try.ntmps4
      go_wp2_with fail
      refine (Calls.mono (C1.out _) ?_)
      rintro e w1 ⟨rfl, hb1⟩
      go_wp2
      go_ret2
      exact ⟨by first | rfl | simp, hb1⟩

set_option maxHeartbeats 2000000 in
theorem implQm_any (n r m : Int) (b : Bool) (c : Int) (hq : QmA n r m b c) (w : World) :
    Calls Try.prog 5 #[.int .i64 n, .int .i64 r, .int .i64 m] w fun e w' => e = .returned (.tuple #[.bool b, .int .i64 c]) ∧ Below w.heap.size w w' := by
  by_cases a1 : n < 1
  · rcases hq with ⟨⟨⟨n1, n2⟩, ⟨r1, r2⟩, m1, m2⟩, rfl, rfl⟩ | ⟨hn, rfl, rfl⟩
    · omega
    clear hn
    go_enter Try.func5, Try.ntmps5
    go_wp2
    go_ret2
    exact ⟨by first | rfl | simp, Below.refl _ _⟩
  by_cases a2 : 100 < n
  · rcases hq with ⟨⟨⟨n1, n2⟩, ⟨r1, r2⟩, m1, m2⟩, rfl, rfl⟩ | ⟨hn, rfl, rfl⟩
    · omega
    clear hn
    go_enter Try.func5, Try.ntmps5
    go_wp2
    go_ret2
    exact ⟨by first | rfl | simp, Below.refl _ _⟩
  by_cases a3 : r < 0
  · rcases hq with ⟨⟨⟨n1, n2⟩, ⟨r1, r2⟩, m1, m2⟩, rfl, rfl⟩ | ⟨hn, rfl, rfl⟩
    · omega
    clear hn
    go_enter Try.func5, Try.ntmps5
    go_wp2
    go_ret2
    exact ⟨by first | rfl | simp, Below.refl _ _⟩
  by_cases a4 : n < r
  · rcases hq with ⟨⟨⟨n1, n2⟩, ⟨r1, r2⟩, m1, m2⟩, rfl, rfl⟩ | ⟨hn, rfl, rfl⟩
    · omega
    clear hn
    go_enter Try.func5, Try.ntmps5
    go_wp2
    go_ret2
    exact ⟨by first | rfl | simp, Below.refl _ _⟩
  by_cases a5 : m < 0
  · rcases hq with ⟨⟨⟨n1, n2⟩, ⟨r1, r2⟩, m1, m2⟩, rfl, rfl⟩ | ⟨hn, rfl, rfl⟩
    · omega
    clear hn
    go_enter Try.func5, Try.ntmps5
    go_wp2
    go_ret2
    exact ⟨by first | rfl | simp, Below.refl _ _⟩
  by_cases a6 : n < m
  · rcases hq with ⟨⟨⟨n1, n2⟩, ⟨r1, r2⟩, m1, m2⟩, rfl, rfl⟩ | ⟨hn, rfl, rfl⟩
    · omega
    clear hn
    go_enter Try.func5, Try.ntmps5
    go_wp2
    go_ret2
    exact ⟨by first | rfl | simp, Below.refl _ _⟩
  rcases hq with ⟨⟨⟨n1, n2⟩, ⟨r1, r2⟩, m1, m2⟩, rfl, rfl⟩ | ⟨hn, rfl, rfl⟩
  · have q : IntKind.i64.wrap (r + m) = r + m := by rw [IntKind.wrap_i64]; omega
    clear n1 n2 r1 r2 m1 m2
    go_enter Try.func5, Try.ntmps5
    go_wp2
    go_ret2
    exact ⟨by first | rfl | simp, Below.refl _ _⟩
  · exact (hn ⟨⟨by omega, by omega⟩, ⟨by omega, by omega⟩, by omega, by omega⟩).elim
theorem QmA.is (n r m : Int) : ∃ b c, QmA n r m b c := by
  by_cases h : QmOK n r m
  · exact ⟨_, _, .inl ⟨h, rfl, rfl⟩⟩
  · exact ⟨_, _, .inr ⟨h, rfl, rfl⟩⟩

set_option maxHeartbeats 2000000 in
theorem law_qm (n : Int) (hn : (Lit.int .i64 n).wf = true) (r : Int) (hr : (Lit.int .i64 r).wf = true) (m : Int) (hm : (Lit.int .i64 m).wf = true) (w : World) :
    Calls Try.prog 3 #[.int .i64 n, .int .i64 r, .int .i64 m] w fun e w' => e = .returned (.bool true) ∧ Below w.heap.size w w' := by
  obtain ⟨b, c, hq⟩ := QmA.is n r m
  have C1 : Hid _ := fun w => specQm_any n r m b c hq w
  have C2 : Hid _ := fun w => implQm_any n r m b c hq w
  clear hq hn hr hm
  go_enter Try.func3, Try.ntmps3
  go_wp2_with fail
  refine (Calls.mono (C1.out _) ?_)
  rintro e w1 ⟨rfl, hb1⟩
  go_wp2_with fail
  refine (Calls.mono (C2.out _) ?_)
  rintro e w2 ⟨rfl, hb2⟩
  cases b
  all_goals
    go_wp2
    go_ret
    exact ⟨rfl, hb1.trans (hb2.mono hb1.size)⟩

end Go.Proofs.Ytpnpbobaolfonaa

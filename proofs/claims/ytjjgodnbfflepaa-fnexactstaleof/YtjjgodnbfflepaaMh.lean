/- Marks: what is written into a row of siblings, and that it is held. -/
import Derived.Test.YtjjgodnbfflepaaRows
import Derived.WalkKit
import Derived.WalkSpells
import Derived.WalkLawsBesides
import Derived.Deep.QuietTactic
import Derived.BigQuiet
import Derived.Deep.RegionHeld3
import Derived.Test.YtjjgodnbfflepaaLk
import Derived.Test.YtjjgodnbfflepaaMk
import Derived.LoopN
namespace Go.Proofs.Ytjjgodnbfflepaa
open Go.RowKit
set_option linter.unusedSimpArgs false
set_option linter.unusedVariables false

/-- The i-th mark from k on. -/
def mk (k : Int) (i : Nat) : Sib := ⟨k + 4 * i, k + 4 * i + 1, k + 4 * i + 1 + 1, (k + 4 * i + 1 + 1 + 1) % 3 == 0⟩
def Marked (w : World) (g : Nat) (k : Int) (n : Nat) : Prop := ∀ i, i < n → SibAt w g (i * 4) (mk k i)
theorem Marked.next {w w' : World} {g n : Nat} {k : Int} (h : Marked w g k n) (hb : Below w.heap.size w w') (hg : g < w.heap.size) : Marked w' g k n := fun i hi => (h i hi).next hb hg
theorem at_off {W : World} {g o o' : Nat} {u : Value} {x : Sib} (h : SibAt W g o x) (hne : o' < o ∨ o + 3 < o') : SibAt (W.setCell ⟨g, o', none⟩ u) g o x :=
  ⟨cell_oth h.1 (by omega), cell_oth h.2.1 (by omega), cell_oth h.2.2.1 (by omega), cell_oth h.2.2.2 (by omega)⟩
theorem mark_at {W : World} {g j n : Nat} {a b c : Int} {d : Bool} (hT : There W g (n * 4)) (hj : j < n) : SibAt ((((W.setCell ⟨g, j * 4, none⟩ (.int .i64 a)).setCell ⟨g, j * 4 + 1, none⟩ (.int .i64 b)).setCell ⟨g, j * 4 + 2, none⟩ (.int .i64 c)).setCell ⟨g, j * 4 + 3, none⟩ (.bool d)) g (j * 4) ⟨a, b, c, d⟩ := by
  obtain ⟨v0, y0⟩ := Option.isSome_iff_exists.1 (hT (j * 4) (by omega)).1
  obtain ⟨v1, y1⟩ := Option.isSome_iff_exists.1 (hT (j * 4 + 1) (by omega)).1
  obtain ⟨v2, y2⟩ := Option.isSome_iff_exists.1 (hT (j * 4 + 2) (by omega)).1
  obtain ⟨v3, y3⟩ := Option.isSome_iff_exists.1 (hT (j * 4 + 3) (by omega)).1
  refine ⟨cell_oth (cell_oth (cell_oth ?_ (by omega)) (by omega)) (by omega), cell_oth (cell_oth ?_ (by omega)) (by omega), cell_oth ?_ (by omega), ?_⟩
  · exact cell_same y0
  · exact cell_same (cell_oth y1 (by omega))
  · exact cell_same (cell_oth (cell_oth y2 (by omega)) (by omega))
  · exact cell_same (cell_oth (cell_oth (cell_oth y3 (by omega)) (by omega)) (by omega))
theorem marked_set {W : World} {g j n : Nat} {k : Int} {u0 u1 u2 u3 : Value} (h : Marked W g k j) : Marked ((((W.setCell ⟨g, j * 4, none⟩ u0).setCell ⟨g, j * 4 + 1, none⟩ u1).setCell ⟨g, j * 4 + 2, none⟩ u2).setCell ⟨g, j * 4 + 3, none⟩ u3) g k j := fun i hi =>
  at_off (at_off (at_off (at_off (h i hi) (by omega)) (by omega)) (by omega)) (by omega)
theorem marked_succ {W : World} {g j : Nat} {k : Int} (h : Marked W g k j) (hj : SibAt W g (j * 4) (mk k j)) : Marked W g k (j + 1) := fun i hi => by
  by_cases e : i = j
  · subst e; exact hj
  · exact h i (by omega)
set_option maxHeartbeats 2000000 in
theorem markS_any (g n cap : Nat) (k : Int) (w : World) (hn : n ≤ 1048576) (h0 : 0 ≤ k) (hk : k ≤ 100000000) (hT0 : There w g (n * 4)) :
    Calls Try.prog 29 #[.slice (some ⟨g, 0, none⟩) n cap, .int .i64 k] w fun e w' => e = .returned (.int .i64 (k + 4 * n)) ∧ w.grownBy w' (some g) ∧ Marked w' g k n := by
  have hT : Hid (There w g (n * 4)) := hT0
  clear hT0
  go_enter Try.func29, Try.ntmps29
  go_wp2
  go_loopw [1, 5] (fun s1 s5 wr => ∃ j : Nat, j ≤ n ∧ s5 = .int .i64 j ∧ s1 = .int .i64 (k + 4 * j) ∧ w.grownBy wr (some g) ∧ There wr g (n * 4) ∧ Marked wr g k j) (fun _ s5 _ => n - (intOf s5).toNat)
  case atStart => exact ⟨0, by omega, rfl, by simp, gb_refl _ _, hT.out, fun i hi => by omega⟩
  case round =>
    obtain ⟨j, hj, rfl, rfl, hG0, hT0, hM0⟩ := hrel
    have hG : Hid (w.grownBy wr (some g)) := hG0
    have hT1 : Hid (There wr g (n * 4)) := hT0
    have hM : Hid (Marked wr g k j) := hM0
    clear hG0 hT0 hT hM0
    by_cases hjn : j < n
    · have hjn' : (j : Int) < (n : Int) := by omega
      have j0 : (0 : Int) ≤ (j : Int) := by omega
      obtain ⟨v0, y0⟩ := Option.isSome_iff_exists.1 (hT1.out (j * 4) (by omega)).1
      obtain ⟨v1, y1⟩ := Option.isSome_iff_exists.1 (hT1.out (j * 4 + 1) (by omega)).1
      obtain ⟨v2, y2⟩ := Option.isSome_iff_exists.1 (hT1.out (j * 4 + 2) (by omega)).1
      obtain ⟨v3, y3⟩ := Option.isSome_iff_exists.1 (hT1.out (j * 4 + 3) (by omega)).1
      have z0 := (hT1.out (j * 4) (by omega)).2
      have z1 := (hT1.out (j * 4 + 1) (by omega)).2
      have z2 := (hT1.out (j * 4 + 2) (by omega)).2
      have z3 := (hT1.out (j * 4 + 3) (by omega)).2
      go_wp2
      go_roundw
      case rel =>
        refine ⟨j + 1, by omega, by go_num, by go_num, gb_trans (gb_trans (gb_trans (gb_trans hG.out (gb_set _ _ _ _)) (gb_set _ _ _ _)) (gb_set _ _ _ _)) (gb_set _ _ _ _), hT1.out.set.set.set.set, ?_⟩
        refine marked_succ (marked_set (n := n) hM.out) ?_
        exact mark_at hT1.out hjn
      case measure => simp [intOf]; omega
    · have hjn' : ¬ (j : Int) < (n : Int) := by omega
      have e : j = n := by omega
      subst e
      go_wp2
      go_ret
      exact ⟨rfl, hG.out, hM.out⟩

set_option maxHeartbeats 2000000 in
theorem heldS_any (g n cap : Nat) (k : Int) (w : World) (hn : n ≤ 1048576) (h0 : 0 ≤ k) (hk : k ≤ 100000000) (hM0 : Marked w g k n) :
    Calls Try.prog 30 #[.slice (some ⟨g, 0, none⟩) n cap, .int .i64 k] w fun e w' => e = .returned (.int .i64 (k + 4 * n)) ∧ Below w.heap.size w w' := by
  have hM : Hid (Marked w g k n) := hM0
  clear hM0
  go_enter Try.func30, Try.ntmps30
  go_wp2
  go_loopw [1, 5] (fun s1 s5 wr => ∃ j : Nat, j ≤ n ∧ s5 = .int .i64 j ∧ s1 = .int .i64 (k + 4 * j) ∧ wr = w) (fun _ s5 _ => n - (intOf s5).toNat)
  case atStart => exact ⟨0, by omega, rfl, by simp, rfl⟩
  case round =>
    obtain ⟨j, hj, rfl, rfl, rfl⟩ := hrel
    by_cases hjn : j < n
    · have hjn' : (j : Int) < (n : Int) := by omega
      have j0 : (0 : Int) ≤ (j : Int) := by omega
      obtain ⟨y0, y1, y2, y3⟩ := hM.out j hjn
      dsimp only [mk] at y0 y1 y2 y3
      go_wp2
      go_roundw
      case rel => first | exact ⟨j + 1, by omega, by go_num, by go_num, trivial⟩ | exact ⟨j + 1, by omega, by go_num, by go_num, rfl⟩ | ((repeat apply Exists.intro); exact ⟨⟨j + 1, by omega, by go_num, by go_num, rfl⟩, rfl⟩)
      case measure => simp [intOf]; omega
    · have hjn' : ¬ (j : Int) < (n : Int) := by omega
      have e : j = n := by omega
      subst e
      go_wp2
      go_ret
      exact ⟨rfl, Below.refl _ _⟩
/-- A row that may be written, and one that is marked. -/
def MRow (w : World) (ao : Option Addr) (n : Nat) : Prop := n = 0 ∨ ∃ g, ao = some ⟨g, 0, none⟩ ∧ g < w.heap.size ∧ There w g (n * 4)
def MkRow (w : World) (ao : Option Addr) (k : Int) (n : Nat) : Prop := n = 0 ∨ ∃ g, ao = some ⟨g, 0, none⟩ ∧ g < w.heap.size ∧ Marked w g k n
theorem mkrow_next {w w' : World} {ao : Option Addr} {k : Int} {n : Nat} (h : Hid (MkRow w ao k n)) (hb : Below w.heap.size w w') : Hid (MkRow w' ao k n) := by
  rcases h.out with h | ⟨g, rfl, hg, hM⟩
  · exact .inl h
  · exact .inr ⟨g, rfl, Nat.lt_of_lt_of_le hg hb.size, hM.next hb hg⟩
theorem mrow_next {w w' : World} {ao : Option Addr} {n : Nat} (h : Hid (MRow w ao n)) (hb : Below w.heap.size w w') : Hid (MRow w' ao n) := by
  rcases h.out with h | ⟨g, rfl, hg, hM⟩
  · exact .inl h
  · exact .inr ⟨g, rfl, Nat.lt_of_lt_of_le hg hb.size, hM.next hb hg⟩
theorem mrow_mark {w w' : World} {ao : Option Addr} {n : Nat} {r : Option Nat} (h : Hid (MRow w ao n)) (hg : w.grownBy w' r) (hne : ∀ q, ao = some q → r ≠ some q.block) : Hid (MRow w' ao n) := by
  rcases h.out with h | ⟨g, rfl, hg', hM⟩
  · exact .inl h
  · refine .inr ⟨g, rfl, Nat.lt_of_lt_of_le hg' hg.size, fun j hj => ?_⟩
    have hq := hg.block g hg' (fun e => hne _ rfl e.symm)
    obtain ⟨h1, h2⟩ := hM j hj
    exact ⟨by rw [World.cell?_of_block (w := w) hq]; exact h1, by rw [World.frozen?_of_block (w := w) hq]; exact h2⟩
set_option maxHeartbeats 1000000 in
theorem mark0_any (cap : Nat) (ao : Option Addr) (k : Int) (w : World) :
    Calls Try.prog 29 #[.slice ao 0 cap, .int .i64 k] w fun e w' => e = .returned (.int .i64 k) ∧ Below w.heap.size w w' := by
  go_enter Try.func29, Try.ntmps29
  go_wp2
  go_loopw [1, 5] (fun s1 s5 wr => s5 = .int .i64 0 ∧ s1 = .int .i64 k ∧ wr = w) (fun _ s5 _ => 0)
  case atStart => exact ⟨rfl, rfl, rfl⟩
  case round =>
    obtain ⟨rfl, rfl, rfl⟩ := hrel
    go_wp2
    go_ret
    exact ⟨rfl, Below.refl _ _⟩
set_option maxHeartbeats 1000000 in
theorem held0_any (cap : Nat) (ao : Option Addr) (k : Int) (w : World) :
    Calls Try.prog 30 #[.slice ao 0 cap, .int .i64 k] w fun e w' => e = .returned (.int .i64 k) ∧ Below w.heap.size w w' := by
  go_enter Try.func30, Try.ntmps30
  go_wp2
  go_loopw [1, 5] (fun s1 s5 wr => s5 = .int .i64 0 ∧ s1 = .int .i64 k ∧ wr = w) (fun _ s5 _ => 0)
  case atStart => exact ⟨rfl, rfl, rfl⟩
  case round =>
    obtain ⟨rfl, rfl, rfl⟩ := hrel
    go_wp2
    go_ret
    exact ⟨rfl, Below.refl _ _⟩
theorem markR_any (n cap : Nat) (ao : Option Addr) (k : Int) (w : World) (hn : n ≤ 1048576) (h0 : 0 ≤ k) (hk : k ≤ 100000000) (hT : MRow w ao n) :
    Calls Try.prog 29 #[.slice ao n cap, .int .i64 k] w fun e w' => e = .returned (.int .i64 (k + 4 * n)) ∧ w.grownBy w' (Value.ownBlock (.slice ao n cap)) ∧ MkRow w' ao k n := by
  rcases hT with rfl | ⟨g, rfl, hg, hT⟩
  · refine (mark0_any cap ao k w).mono ?_
    rintro e w' ⟨rfl, hb⟩
    exact ⟨by simp, gb_below hb, .inl rfl⟩
  · refine (markS_any g n cap k w hn h0 hk hT).mono ?_
    rintro e w' ⟨rfl, hb, hM⟩
    exact ⟨rfl, hb, .inr ⟨g, rfl, Nat.lt_of_lt_of_le hg hb.size, hM⟩⟩
theorem heldR_any (n cap : Nat) (ao : Option Addr) (k : Int) (w : World) (hn : n ≤ 1048576) (h0 : 0 ≤ k) (hk : k ≤ 100000000) (hT : MkRow w ao k n) :
    Calls Try.prog 30 #[.slice ao n cap, .int .i64 k] w fun e w' => e = .returned (.int .i64 (k + 4 * n)) ∧ Below w.heap.size w w' := by
  rcases hT with rfl | ⟨g, rfl, hg, hT⟩
  · refine (held0_any cap ao k w).mono ?_
    rintro e w' ⟨rfl, hb⟩
    exact ⟨by simp, hb⟩
  · exact heldS_any g n cap k w hn h0 hk hT
set_option maxHeartbeats 1000000 in
theorem markO_any (n cap : Nat) (ao : Option Addr) (a b c k : Int) (w : World) (hn : n ≤ 1048576) (h0 : 0 ≤ k) (hk : k ≤ 100000000) (hT0 : MRow w ao n) :
    Calls Try.prog 12 #[.agg #[.slice ao n cap, .int .i64 a, .int .i64 b, .int .i64 c], .int .i64 k] w fun e w' => e = .returned (.int .i64 (k + 4 * n)) ∧ w.grownBy w' (Value.ownBlock (.slice ao n cap)) ∧ MkRow w' ao k n := by
  have hT : Hid (MRow w ao n) := hT0
  clear hT0
  go_enter Try.func12, Try.ntmps12
  go_wp2_with fail
  refine (markR_any n cap ao k _ hn h0 hk (mrow_next hT (bel_alloc _ _)).out).mono ?_
  rintro e w1 ⟨rfl, hb, hM⟩
  have hG : Hid (w.grownBy w1 (Value.ownBlock (.slice ao n cap))) := gb_trans (gb_below (bel_alloc _ _)) hb
  have HM : Hid (MkRow w1 ao k n) := hM
  clear hb hM
  go_wp2
  go_ret
  exact ⟨rfl, hG.out, HM.out⟩
set_option maxHeartbeats 1000000 in
theorem heldO_any (n cap : Nat) (ao : Option Addr) (a b c k : Int) (w : World) (hn : n ≤ 1048576) (h0 : 0 ≤ k) (hk : k ≤ 100000000) (hT0 : MkRow w ao k n) :
    Calls Try.prog 13 #[.agg #[.slice ao n cap, .int .i64 a, .int .i64 b, .int .i64 c], .int .i64 k] w fun e w' => e = .returned (.int .i64 (k + 4 * n)) ∧ Below w.heap.size w w' := by
  have hT : Hid (MkRow w ao k n) := hT0
  clear hT0
  have hnn : ¬ k + 4 * (n : Int) < 0 := by omega
  go_enter Try.func13, Try.ntmps13
  go_wp2_with fail
  refine (heldR_any n cap ao k _ hn h0 hk (mkrow_next hT (bel_alloc _ _)).out).mono ?_
  rintro e w1 ⟨rfl, hb⟩
  have hB : Hid (Below w.heap.size w w1) := (bel_alloc _ _).trans (hb.mono (by simp))
  clear hb
  go_wp2
  go_ret
  exact ⟨rfl, hB.out⟩
end Go.Proofs.Ytjjgodnbfflepaa

/- Marks: what is written into a list, and that it is held. -/
import Derived.Test.YthbdjnaamjnibaaRows
import Derived.WalkKit
import Derived.WalkSpells
import Derived.WalkLawsBesides
import Derived.Deep.QuietTactic
import Derived.BigQuiet
import Derived.Deep.RegionHeld3
import Derived.Test.YthbdjnaamjnibaaAp
import Derived.Test.YthbdjnaamjnibaaIo
import Derived.LoopN
namespace Go.Proofs.Ythbdjnaamjnibaa
open Go.RowKit
set_option linter.unusedSimpArgs false
set_option linter.unusedVariables false

theorem gb_refl (w : World) (r : Option Nat) : w.grownBy w r := ⟨rfl, rfl, rfl, Nat.le_refl _, fun _ _ _ => rfl⟩
theorem gb_trans {w w1 w2 : World} {r : Option Nat} (h : w.grownBy w1 r) (k : w1.grownBy w2 r) : w.grownBy w2 r :=
  ⟨k.os.trans h.os, k.tape.trans h.tape, k.output.trans h.output, Nat.le_trans h.size k.size, fun b hb hne => (k.block b (Nat.lt_of_lt_of_le hb h.size) hne).trans (h.block b hb hne)⟩
theorem gb_below {w w' : World} {r : Option Nat} (h : Below w.heap.size w w') : w.grownBy w' r := ⟨h.os, h.tape, h.output, h.size, fun b hb _ => h.block b hb⟩
theorem gb_set (w : World) (g o : Nat) (u : Value) : w.grownBy (w.setCell ⟨g, o, none⟩ u) (some g) :=
  ⟨by simp [World.setCell], by simp [World.setCell], by simp [World.setCell], by simp [World.setCell], fun b _ hne => Below.heap_setCell w ⟨g, o, none⟩ u b (fun e => hne (by rw [e]))⟩
theorem bel_mark {w W W' : World} {r : Option Nat} (h : Hid (Below w.heap.size w W)) (hg : W.grownBy W' r) (hr : ∀ k, r = some k → w.heap.size ≤ k) : Hid (Below w.heap.size w W') :=
  ⟨hg.os.trans h.out.os, hg.tape.trans h.out.tape, hg.output.trans h.out.output, Nat.le_trans h.out.size hg.size, fun b hb => (hg.block b (Nat.lt_of_lt_of_le hb h.out.size) (fun e => by have := hr b e.symm; omega)).trans (h.out.block b hb)⟩
set_option maxHeartbeats 2000000 in
theorem markSibs_any (g n cap : Nat) (k : Int) (w : World) (hn : n ≤ 1048576) (h0 : 0 ≤ k) (hk : k ≤ 100000000) (hT0 : There w g (n * 4)) :
    Calls Try.prog 24 #[.slice (some ⟨g, 0, none⟩) n cap, .int .i64 k] w fun e w' => e = .returned (.int .i64 (k + 4 * n)) ∧ w.grownBy w' (some g) := by
  have hT : Hid (There w g (n * 4)) := hT0
  clear hT0
  go_enter Try.func24, Try.ntmps24
  go_wp2
  go_loopw [1, 5] (fun s1 s5 wr => ∃ j : Nat, j ≤ n ∧ s5 = .int .i64 j ∧ s1 = .int .i64 (k + 4 * j) ∧ w.grownBy wr (some g) ∧ There wr g (n * 4)) (fun _ s5 _ => n - (intOf s5).toNat)
  case atStart => exact ⟨0, by omega, rfl, by simp, gb_refl _ _, hT.out⟩
  case round =>
    obtain ⟨j, hj, rfl, rfl, hG0, hT0⟩ := hrel
    have hG : Hid (w.grownBy wr (some g)) := hG0
    have hT1 : Hid (There wr g (n * 4)) := hT0
    clear hG0 hT0 hT
    by_cases hjn : j < n
    · have hjn' : (j : Int) < (n : Int) := by omega
      have j0 : (0 : Int) ≤ (j : Int) := by omega
      obtain ⟨v0, y0⟩ := Option.isSome_iff_exists.1 (hT1.out (j * 4) (by omega)).1
      obtain ⟨v1, y1⟩ := Option.isSome_iff_exists.1 (hT1.out (j * 4 + 1) (by omega)).1
      obtain ⟨v2, y2⟩ := Option.isSome_iff_exists.1 (hT1.out (j * 4 + 2) (by omega)).1
      obtain ⟨v3, y3⟩ := Option.isSome_iff_exists.1 (hT1.out (j * 4 + 3) (by omega)).1
      have z0 := (hT1.out (j * 4) (by omega)).2
      have z1 := (hT1.out (j * 4 + 1) (by omega)).2
      have z2 := (hT1.out (j * 4 + 2) (by omega)).2
      have z3 := (hT1.out (j * 4 + 3) (by omega)).2
      go_wp2
      go_roundw
      case rel => first | exact ⟨j + 1, by omega, by go_num, by go_num, gb_trans (gb_trans (gb_trans (gb_trans hG.out (gb_set _ _ _ _)) (gb_set _ _ _ _)) (gb_set _ _ _ _)) (gb_set _ _ _ _), hT1.out.set.set.set.set⟩ | ((repeat apply Exists.intro); exact ⟨⟨j + 1, by omega, by go_num, by go_num, gb_trans (gb_trans (gb_trans (gb_trans hG.out (gb_set _ _ _ _)) (gb_set _ _ _ _)) (gb_set _ _ _ _)) (gb_set _ _ _ _), hT1.out.set.set.set.set⟩, rfl⟩)
      case measure => simp [intOf]; omega
    · have hjn' : ¬ (j : Int) < (n : Int) := by omega
      have e : j = n := by omega
      subst e
      go_wp2
      go_ret
      exact ⟨rfl, hG.out⟩
set_option maxHeartbeats 1000000 in
theorem markObj_any (g n cap : Nat) (a b c k : Int) (w : World) (hn : n ≤ 1048576) (h0 : 0 ≤ k) (hk : k ≤ 100000000) (hg : g < w.heap.size) (hT0 : There w g (n * 4)) :
    Calls Try.prog 11 #[.agg #[.slice (some ⟨g, 0, none⟩) n cap, .int .i64 a, .int .i64 b, .int .i64 c], .int .i64 k] w fun e w' => e = .returned (.int .i64 (k + 4 * n)) ∧ w.grownBy w' (some g) := by
  have hT : Hid (There w g (n * 4)) := hT0
  clear hT0
  go_enter Try.func11, Try.ntmps11
  go_wp2_with fail
  refine (markSibs_any g n cap k _ hn h0 hk (hT.out.next ((Below.refl _ _).alloc (Nat.le_refl _) _) hg)).mono ?_
  rintro e w1 ⟨rfl, hb⟩
  have hG : Hid (w.grownBy w1 (some g)) := gb_trans (gb_below ((Below.refl _ _).alloc (Nat.le_refl _) _)) hb
  clear hb
  go_wp2
  go_ret
  exact ⟨rfl, hG.out⟩
end Go.Proofs.Ythbdjnaamjnibaa

/- What is known, as the specification's cluster asks it. -/
import Derived.Test.YtkdbcmkmcjaenaaGreatDoorRows
import Derived.WalkKit
import Derived.WalkSpells
import Derived.WalkLawsBesides
import Derived.Deep.QuietTactic
import Derived.BigQuiet
import Derived.Deep.RegionHeld3
import Derived.Test.YtkdbcmkmcjaenaaGreatDoorEo
import Derived.Test.YtkdbcmkmcjaenaaGreatDoorEm
import Derived.LoopN
import Derived.OwnWalk
import Derived.Laws.StructEq
namespace Go.Proofs.YtkdbcmkmcjaenaaGreatDoor
open Go.RowKit
set_option linter.unusedSimpArgs false
set_option linter.unusedVariables false

def knowP (a b c x y z : Int) : Prop := a ≤ x ∧ b ≤ y ∧ c ≤ z
theorem ord_four (a b c x y z : Int) : (ordR a b c x y z = 0 ∧ knowP a b c x y z) ∨ (ordR a b c x y z = 1 ∧ knowP a b c x y z) ∨ (ordR a b c x y z = 2 ∧ ¬ knowP a b c x y z) ∨ (ordR a b c x y z = 3 ∧ ¬ knowP a b c x y z) := by
  unfold ordR knowP
  (repeat' split) <;> omega
set_option maxRecDepth 20000 in
set_option maxHeartbeats 2000000 in
theorem known_any (a b c x y z : Int) (w : World) :
    Calls Tryz.prog 55 #[.agg #[.slice none 0 0, .int .i64 a, .int .i64 b, .int .i64 c], .agg #[.int .i64 x, .int .i64 y, .int .i64 z]] w (Told (knowP a b c x y z) w) := by
  have hb0 : Hid (∀ o1 o2, Below w.heap.size w ((w.alloc o1).alloc o2)) := fun o1 o2 => ((Below.refl _ _).alloc (Nat.le_refl _) _).alloc (by simp) _
  have HO : Hid (∀ W, Calls Tryz.prog 90 #[.agg #[.int .i64 a, .int .i64 b, .int .i64 c], .agg #[.int .i64 x, .int .i64 y, .int .i64 z]] W fun e w' => e = .returned (.int .i64 (ordR a b c x y z)) ∧ Below W.heap.size W w') := fun W => l01_order_all a b c x y z W
  have H4 := ord_four a b c x y z
  generalize ordR a b c x y z = r at *
  go_enter Tryz.func55, Tryz.ntmps55
  go_upto_region 1 with fail
  refine wp_gen (fun W => Box W w.heap.size [.slice none 0 0, .int .i64 a, .int .i64 b, .int .i64 c] ∧ Box W (w.heap.size + 1) [.int .i64 x, .int .i64 y, .int .i64 z] ∧ Below w.heap.size w W) ⟨box_mk.alloc, ?_, hb0.out _ _⟩ (fun W0 hI => ?_)
  · have := box_mk (W := w.alloc (.cells #[.slice none 0 0, .int .i64 a, .int .i64 b, .int .i64 c] 34)) (t := 32) (vs := [.int .i64 x, .int .i64 y, .int .i64 z])
    simpa using this
  have Y : Hid (Box W0 w.heap.size [.slice none 0 0, .int .i64 a, .int .i64 b, .int .i64 c] ∧ Box W0 (w.heap.size + 1) [.int .i64 x, .int .i64 y, .int .i64 z] ∧ Below w.heap.size w W0) := hI
  clear hI hb0
  obtain ⟨a0, a1, a2, a3⟩ := Y.out.1.c4
  obtain ⟨b0, b1, b2⟩ := Y.out.2.1.c3
  go_wp2_with fail
  refine Calls.mono (HO.out W0) ?_
  rintro e W1 ⟨rfl, hb⟩
  replace Y : Hid (Box W1 w.heap.size [.slice none 0 0, .int .i64 a, .int .i64 b, .int .i64 c] ∧ Box W1 (w.heap.size + 1) [.int .i64 x, .int .i64 y, .int .i64 z] ∧ Below w.heap.size w W1) := ⟨Y.out.1.next hb, Y.out.2.1.next hb, Y.out.2.2.trans (hb.mono Y.out.2.2.size)⟩
  clear hb a0 a1 a2 a3 b0 b1 b2
  obtain ⟨a0, a1, a2, a3⟩ := Y.out.1.c4
  obtain ⟨b0, b1, b2⟩ := Y.out.2.1.c3
  rcases H4 with ⟨rfl, hP⟩ | ⟨rfl, hP⟩ | ⟨rfl, hP⟩ | ⟨rfl, hP⟩
  · have HN : Hid (knowP a b c x y z) := hP
    clear hP HO
    go_wp2
    go_ret
    exact ⟨true, rfl, by simp [HN.out], Y.out.2.2⟩
  · have HN : Hid (knowP a b c x y z) := hP
    clear hP
    go_wp2_with fail
    refine Calls.mono (HO.out W1) ?_
    rintro e W2 ⟨rfl, hb⟩
    have hB : Hid (Below w.heap.size w W2) := Y.out.2.2.trans (hb.mono Y.out.2.2.size)
    clear hb a0 a1 a2 a3 b0 b1 b2 HO Y
    go_wp2
    go_ret
    exact ⟨true, rfl, by simp [HN.out], hB.out⟩
  · have HN : Hid (¬ knowP a b c x y z) := hP
    clear hP
    go_wp2_with fail
    refine Calls.mono (HO.out W1) ?_
    rintro e W2 ⟨rfl, hb⟩
    have hB : Hid (Below w.heap.size w W2) := Y.out.2.2.trans (hb.mono Y.out.2.2.size)
    clear hb a0 a1 a2 a3 b0 b1 b2 HO Y
    go_wp2
    go_ret
    exact ⟨false, rfl, by simp [HN.out], hB.out⟩
  · have HN : Hid (¬ knowP a b c x y z) := hP
    clear hP
    go_wp2_with fail
    refine Calls.mono (HO.out W1) ?_
    rintro e W2 ⟨rfl, hb⟩
    have hB : Hid (Below w.heap.size w W2) := Y.out.2.2.trans (hb.mono Y.out.2.2.size)
    clear hb a0 a1 a2 a3 b0 b1 b2 HO Y
    go_wp2
    go_ret
    exact ⟨false, rfl, by simp [HN.out], hB.out⟩
end Go.Proofs.YtkdbcmkmcjaenaaGreatDoor

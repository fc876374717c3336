/- New nodes compared. -/
import Derived.Test.YtagmpoakakbeaaaRows
import Derived.WalkKit
import Derived.WalkSpells
import Derived.WalkLawsBesides
import Derived.Deep.QuietTactic
import Derived.BigQuiet
import Derived.Deep.RegionHeld3
import Derived.Test.YtagmpoakakbeaaaKe
import Derived.LoopN
import Derived.Deep.Cut
namespace Go.Proofs.Ytagmpoakakbeaaa
open Go.RowKit
set_option linter.unusedSimpArgs false
set_option linter.unusedVariables false
theorem World.alloc_size (w : World) (o : Obj) : (w.alloc o).heap.size = w.heap.size + 1 := by simp

set_option maxHeartbeats 2000000 in
theorem eqDisk_nil (p0 p1 q0 q1 : Option Addr) (c0 c1 d0 d1 : Nat) (w : World) : Calls Try.prog 71 #[.agg #[.slice p0 0 c0, .slice p1 0 c1], .agg #[.slice q0 0 d0, .slice q1 0 d1]] w fun e w' => e = .returned (.bool true) ∧ Below w.heap.size w w' := by
  have X : Hid (Box ((w.alloc (.cells #[.slice p0 0 c0, .slice p1 0 c1] 65)).alloc (.cells #[.slice q0 0 d0, .slice q1 0 d1] 65)) w.heap.size [.slice p0 0 c0, .slice p1 0 c1] ∧ Box ((w.alloc (.cells #[.slice p0 0 c0, .slice p1 0 c1] 65)).alloc (.cells #[.slice q0 0 d0, .slice q1 0 d1] 65)) (w.heap.size + 1) [.slice q0 0 d0, .slice q1 0 d1] ∧ Below w.heap.size w ((w.alloc (.cells #[.slice p0 0 c0, .slice p1 0 c1] 65)).alloc (.cells #[.slice q0 0 d0, .slice q1 0 d1] 65))) := by
    have h1 : Box (w.alloc (.cells #[.slice p0 0 c0, .slice p1 0 c1] 65)) w.heap.size [.slice p0 0 c0, .slice p1 0 c1] := box_mk
    have h2 : Box ((w.alloc (.cells #[.slice p0 0 c0, .slice p1 0 c1] 65)).alloc (.cells #[.slice q0 0 d0, .slice q1 0 d1] 65)) (w.alloc (.cells #[.slice p0 0 c0, .slice p1 0 c1] 65)).heap.size [.slice q0 0 d0, .slice q1 0 d1] := box_mk
    rw [World.alloc_size] at h2
    exact ⟨h1.alloc, h2, (bel_alloc _ _).trans ((bel_alloc _ _).mono (by simp))⟩
  go_enter Try.func71, Try.ntmps71
  go_upto_region 1 with fail
  generalize ((w.alloc (.cells #[.slice p0 0 c0, .slice p1 0 c1] 65)).alloc (.cells #[.slice q0 0 d0, .slice q1 0 d1] 65)) = W0 at *
  obtain ⟨a0, a1⟩ := X.out.1.c2
  obtain ⟨b0, b1⟩ := X.out.2.1.c2
  go_wp2_with fail
  refine Calls.mono (eqStringS_nil _ _ _ _ _) ?_
  rintro e W1 ⟨rfl, hb⟩
  replace X : Hid (Box W1 w.heap.size [.slice p0 0 c0, .slice p1 0 c1] ∧ Box W1 (w.heap.size + 1) [.slice q0 0 d0, .slice q1 0 d1] ∧ Below w.heap.size w W1) := ⟨X.out.1.next hb, X.out.2.1.next hb, X.out.2.2.trans (hb.mono X.out.2.2.size)⟩
  clear hb a0 a1 b0 b1
  obtain ⟨a0, a1⟩ := X.out.1.c2
  obtain ⟨b0, b1⟩ := X.out.2.1.c2
  go_wp2_with fail
  refine Calls.mono (eqStringS_nil _ _ _ _ _) ?_
  rintro e W2 ⟨rfl, hb⟩
  replace X : Hid (Box W2 w.heap.size [.slice p0 0 c0, .slice p1 0 c1] ∧ Box W2 (w.heap.size + 1) [.slice q0 0 d0, .slice q1 0 d1] ∧ Below w.heap.size w W2) := ⟨X.out.1.next hb, X.out.2.1.next hb, X.out.2.2.trans (hb.mono X.out.2.2.size)⟩
  clear hb a0 a1 b0 b1
  obtain ⟨a0, a1⟩ := X.out.1.c2
  obtain ⟨b0, b1⟩ := X.out.2.1.c2
  go_wp2
  go_ret
  exact ⟨rfl, X.out.2.2⟩

set_option maxHeartbeats 2000000 in
theorem eqNode_nil (x y z : Int) (p0 p1 p2 p3 q0 q1 q2 q3 : Option Addr) (c0 c1 c2 c3 d0 d1 d2 d3 : Nat) (w : World) : Calls Try.prog 57 #[.agg #[.int .i64 x, .int .i64 y, .int .i64 z, .slice p0 0 c0, .slice p1 0 c1, .slice p2 0 c2, .slice p3 0 c3], .agg #[.int .i64 x, .int .i64 y, .int .i64 z, .slice q0 0 d0, .slice q1 0 d1, .slice q2 0 d2, .slice q3 0 d3]] w fun e w' => e = .returned (.bool true) ∧ Below w.heap.size w w' := by
  have X : Hid (Box ((w.alloc (.cells #[.int .i64 x, .int .i64 y, .int .i64 z, .slice p0 0 c0, .slice p1 0 c1, .slice p2 0 c2, .slice p3 0 c3] 67)).alloc (.cells #[.int .i64 x, .int .i64 y, .int .i64 z, .slice q0 0 d0, .slice q1 0 d1, .slice q2 0 d2, .slice q3 0 d3] 67)) w.heap.size [.int .i64 x, .int .i64 y, .int .i64 z, .slice p0 0 c0, .slice p1 0 c1, .slice p2 0 c2, .slice p3 0 c3] ∧ Box ((w.alloc (.cells #[.int .i64 x, .int .i64 y, .int .i64 z, .slice p0 0 c0, .slice p1 0 c1, .slice p2 0 c2, .slice p3 0 c3] 67)).alloc (.cells #[.int .i64 x, .int .i64 y, .int .i64 z, .slice q0 0 d0, .slice q1 0 d1, .slice q2 0 d2, .slice q3 0 d3] 67)) (w.heap.size + 1) [.int .i64 x, .int .i64 y, .int .i64 z, .slice q0 0 d0, .slice q1 0 d1, .slice q2 0 d2, .slice q3 0 d3] ∧ Below w.heap.size w ((w.alloc (.cells #[.int .i64 x, .int .i64 y, .int .i64 z, .slice p0 0 c0, .slice p1 0 c1, .slice p2 0 c2, .slice p3 0 c3] 67)).alloc (.cells #[.int .i64 x, .int .i64 y, .int .i64 z, .slice q0 0 d0, .slice q1 0 d1, .slice q2 0 d2, .slice q3 0 d3] 67))) := by
    have h1 : Box (w.alloc (.cells #[.int .i64 x, .int .i64 y, .int .i64 z, .slice p0 0 c0, .slice p1 0 c1, .slice p2 0 c2, .slice p3 0 c3] 67)) w.heap.size [.int .i64 x, .int .i64 y, .int .i64 z, .slice p0 0 c0, .slice p1 0 c1, .slice p2 0 c2, .slice p3 0 c3] := box_mk
    have h2 : Box ((w.alloc (.cells #[.int .i64 x, .int .i64 y, .int .i64 z, .slice p0 0 c0, .slice p1 0 c1, .slice p2 0 c2, .slice p3 0 c3] 67)).alloc (.cells #[.int .i64 x, .int .i64 y, .int .i64 z, .slice q0 0 d0, .slice q1 0 d1, .slice q2 0 d2, .slice q3 0 d3] 67)) (w.alloc (.cells #[.int .i64 x, .int .i64 y, .int .i64 z, .slice p0 0 c0, .slice p1 0 c1, .slice p2 0 c2, .slice p3 0 c3] 67)).heap.size [.int .i64 x, .int .i64 y, .int .i64 z, .slice q0 0 d0, .slice q1 0 d1, .slice q2 0 d2, .slice q3 0 d3] := box_mk
    rw [World.alloc_size] at h2
    exact ⟨h1.alloc, h2, (bel_alloc _ _).trans ((bel_alloc _ _).mono (by simp))⟩
  go_enter Try.func57, Try.ntmps57
  go_upto_region 1 with fail
  generalize ((w.alloc (.cells #[.int .i64 x, .int .i64 y, .int .i64 z, .slice p0 0 c0, .slice p1 0 c1, .slice p2 0 c2, .slice p3 0 c3] 67)).alloc (.cells #[.int .i64 x, .int .i64 y, .int .i64 z, .slice q0 0 d0, .slice q1 0 d1, .slice q2 0 d2, .slice q3 0 d3] 67)) = W0 at *
  obtain ⟨a0, a1, a2, a3, a4, a5, a6⟩ := X.out.1.c7
  obtain ⟨b0, b1, b2, b3, b4, b5, b6⟩ := X.out.2.1.c7
  go_wp2_with fail
  refine Calls.mono (eqCellS_nil _ _ _ _ _) ?_
  rintro e W1 ⟨rfl, hb⟩
  replace X : Hid (Box W1 w.heap.size [.int .i64 x, .int .i64 y, .int .i64 z, .slice p0 0 c0, .slice p1 0 c1, .slice p2 0 c2, .slice p3 0 c3] ∧ Box W1 (w.heap.size + 1) [.int .i64 x, .int .i64 y, .int .i64 z, .slice q0 0 d0, .slice q1 0 d1, .slice q2 0 d2, .slice q3 0 d3] ∧ Below w.heap.size w W1) := ⟨X.out.1.next hb, X.out.2.1.next hb, X.out.2.2.trans (hb.mono X.out.2.2.size)⟩
  clear hb a0 a1 a2 a3 a4 a5 a6 b0 b1 b2 b3 b4 b5 b6
  obtain ⟨a0, a1, a2, a3, a4, a5, a6⟩ := X.out.1.c7
  obtain ⟨b0, b1, b2, b3, b4, b5, b6⟩ := X.out.2.1.c7
  go_wp2_with fail
  refine Calls.mono (eqEntryS_nil _ _ _ _ _) ?_
  rintro e W2 ⟨rfl, hb⟩
  replace X : Hid (Box W2 w.heap.size [.int .i64 x, .int .i64 y, .int .i64 z, .slice p0 0 c0, .slice p1 0 c1, .slice p2 0 c2, .slice p3 0 c3] ∧ Box W2 (w.heap.size + 1) [.int .i64 x, .int .i64 y, .int .i64 z, .slice q0 0 d0, .slice q1 0 d1, .slice q2 0 d2, .slice q3 0 d3] ∧ Below w.heap.size w W2) := ⟨X.out.1.next hb, X.out.2.1.next hb, X.out.2.2.trans (hb.mono X.out.2.2.size)⟩
  clear hb a0 a1 a2 a3 a4 a5 a6 b0 b1 b2 b3 b4 b5 b6
  obtain ⟨a0, a1, a2, a3, a4, a5, a6⟩ := X.out.1.c7
  obtain ⟨b0, b1, b2, b3, b4, b5, b6⟩ := X.out.2.1.c7
  go_wp2_with fail
  refine Calls.mono (eqDisk_nil _ _ _ _ _ _ _ _ _) ?_
  rintro e W3 ⟨rfl, hb⟩
  replace X : Hid (Box W3 w.heap.size [.int .i64 x, .int .i64 y, .int .i64 z, .slice p0 0 c0, .slice p1 0 c1, .slice p2 0 c2, .slice p3 0 c3] ∧ Box W3 (w.heap.size + 1) [.int .i64 x, .int .i64 y, .int .i64 z, .slice q0 0 d0, .slice q1 0 d1, .slice q2 0 d2, .slice q3 0 d3] ∧ Below w.heap.size w W3) := ⟨X.out.1.next hb, X.out.2.1.next hb, X.out.2.2.trans (hb.mono X.out.2.2.size)⟩
  clear hb a0 a1 a2 a3 a4 a5 a6 b0 b1 b2 b3 b4 b5 b6
  obtain ⟨a0, a1, a2, a3, a4, a5, a6⟩ := X.out.1.c7
  obtain ⟨b0, b1, b2, b3, b4, b5, b6⟩ := X.out.2.1.c7
  go_wp2
  go_ret
  exact ⟨rfl, X.out.2.2⟩
end Go.Proofs.Ytagmpoakakbeaaa

/- New worlds, on both sides: made, compared, marked, held. -/
import Derived.Test.YtagmpoakakbeaaaRows
import Derived.WalkKit
import Derived.WalkSpells
import Derived.WalkLawsBesides
import Derived.Deep.QuietTactic
import Derived.BigQuiet
import Derived.Deep.RegionHeld3
import Derived.Test.YtagmpoakakbeaaaKu
import Derived.LoopN
import Derived.Deep.Cut
namespace Go.Proofs.Ytagmpoakakbeaaa
open Go.RowKit
set_option linter.unusedSimpArgs false
set_option linter.unusedVariables false

set_option maxHeartbeats 1000000 in
theorem eqEventS_nil (p q : Option Addr) (c d : Nat) (w : World) : Calls Try.prog 18 #[.slice p 0 c, .slice q 0 d] w fun e w' => e = .returned (.bool true) ∧ Below w.heap.size w w' := by
  go_enter Try.func18, Try.ntmps18
  go_wp2
  refine wp_loop_rounds 1 ?_
  rw [rounds_succ]
  go_wp2
  go_ret
  exact ⟨rfl, Below.refl _ _⟩

set_option maxHeartbeats 1000000 in
theorem eqRowS_nil (p q : Option Addr) (c d : Nat) (w : World) : Calls Try.prog 20 #[.slice p 0 c, .slice q 0 d] w fun e w' => e = .returned (.bool true) ∧ Below w.heap.size w w' := by
  go_enter Try.func20, Try.ntmps20
  go_wp2
  refine wp_loop_rounds 1 ?_
  rw [rounds_succ]
  go_wp2
  go_ret
  exact ⟨rfl, Below.refl _ _⟩

set_option maxHeartbeats 1000000 in
theorem eqDotS_nil (p q : Option Addr) (c d : Nat) (w : World) : Calls Try.prog 43 #[.slice p 0 c, .slice q 0 d] w fun e w' => e = .returned (.bool true) ∧ Below w.heap.size w w' := by
  go_enter Try.func43, Try.ntmps43
  go_wp2
  refine wp_loop_rounds 1 ?_
  rw [rounds_succ]
  go_wp2
  go_ret
  exact ⟨rfl, Below.refl _ _⟩

set_option maxHeartbeats 1000000 in
theorem markEventS_nil (p : Option Addr) (c : Nat) (k : Int) (w : World) : Calls Try.prog 22 #[.slice p 0 c, .int .i64 k] w fun e w' => e = .returned (.int .i64 k) ∧ Below w.heap.size w w' := by
  go_enter Try.func22, Try.ntmps22
  go_wp2
  refine wp_loop_rounds 1 ?_
  rw [rounds_succ]
  go_wp2
  go_ret
  exact ⟨rfl, Below.refl _ _⟩

set_option maxHeartbeats 1000000 in
theorem markRowS_nil (p : Option Addr) (c : Nat) (k : Int) (w : World) : Calls Try.prog 24 #[.slice p 0 c, .int .i64 k] w fun e w' => e = .returned (.int .i64 k) ∧ Below w.heap.size w w' := by
  go_enter Try.func24, Try.ntmps24
  go_wp2
  refine wp_loop_rounds 1 ?_
  rw [rounds_succ]
  go_wp2
  go_ret
  exact ⟨rfl, Below.refl _ _⟩

set_option maxHeartbeats 1000000 in
theorem markDotS_nil (p : Option Addr) (c : Nat) (k : Int) (w : World) : Calls Try.prog 49 #[.slice p 0 c, .int .i64 k] w fun e w' => e = .returned (.int .i64 k) ∧ Below w.heap.size w w' := by
  go_enter Try.func49, Try.ntmps49
  go_wp2
  refine wp_loop_rounds 1 ?_
  rw [rounds_succ]
  go_wp2
  go_ret
  exact ⟨rfl, Below.refl _ _⟩

set_option maxHeartbeats 1000000 in
theorem heldEventS_nil (p : Option Addr) (c : Nat) (k : Int) (w : World) : Calls Try.prog 26 #[.slice p 0 c, .int .i64 k] w fun e w' => e = .returned (.int .i64 k) ∧ Below w.heap.size w w' := by
  go_enter Try.func26, Try.ntmps26
  go_wp2
  refine wp_loop_rounds 1 ?_
  rw [rounds_succ]
  go_wp2
  go_ret
  exact ⟨rfl, Below.refl _ _⟩

set_option maxHeartbeats 1000000 in
theorem heldRowS_nil (p : Option Addr) (c : Nat) (k : Int) (w : World) : Calls Try.prog 28 #[.slice p 0 c, .int .i64 k] w fun e w' => e = .returned (.int .i64 k) ∧ Below w.heap.size w w' := by
  go_enter Try.func28, Try.ntmps28
  go_wp2
  refine wp_loop_rounds 1 ?_
  rw [rounds_succ]
  go_wp2
  go_ret
  exact ⟨rfl, Below.refl _ _⟩

set_option maxHeartbeats 1000000 in
theorem heldDotS_nil (p : Option Addr) (c : Nat) (k : Int) (w : World) : Calls Try.prog 54 #[.slice p 0 c, .int .i64 k] w fun e w' => e = .returned (.int .i64 k) ∧ Below w.heap.size w w' := by
  go_enter Try.func54, Try.ntmps54
  go_wp2
  refine wp_loop_rounds 1 ?_
  rw [rounds_succ]
  go_wp2
  go_ret
  exact ⟨rfl, Below.refl _ _⟩

set_option maxHeartbeats 1000000 in
theorem eqVv_same (a b c : Int) (w : World) :
    Calls Try.prog 42 #[.agg #[.int .i64 a, .int .i64 b, .int .i64 c], .agg #[.int .i64 a, .int .i64 b, .int .i64 c]] w fun e w' => e = .returned (.bool true) ∧ Below w.heap.size w w' := by
  go_enter Try.func42, Try.ntmps42
  go_wp2
  refine wp_loop_rounds 4 ?_
  repeat (rw [rounds_succ]; go_wp2; (try (go_quiet (fail); go_wp2)))
  go_ret
  refine ⟨rfl, ?_⟩
  repeat (first | exact Below.refl _ _ | refine Below.drew ?_ | refine below_drewN ?_ _ | refine Below.alloc ?_ (by first | (simp; done) | (simp; omega)) _ | refine Below.setCell ?_ (by first | (simp; done) | (simp; omega)) _)

set_option maxRecDepth 100000 in
set_option maxHeartbeats 2000000 in
theorem eqGroup_new (v0 v1 : Nat) (u0 u1 : Option Addr) (w : World)  : Calls Try.prog 19 #[.agg #[.int .i64 1, .int .i64 0, .int .i64 0, .int .i64 0, .int .i64 0, .slice u0 0 v0], .agg #[.int .i64 1, .int .i64 0, .int .i64 0, .int .i64 0, .int .i64 0, .slice u1 0 v1]] w fun e w' => e = .returned (.bool true) ∧ Below w.heap.size w w' := by
  have X : Hid (Box ((w.alloc (.cells #[.int .i64 1, .int .i64 0, .int .i64 0, .int .i64 0, .int .i64 0, .slice u0 0 v0] 32)).alloc (.cells #[.int .i64 1, .int .i64 0, .int .i64 0, .int .i64 0, .int .i64 0, .slice u1 0 v1] 32)) w.heap.size [.int .i64 1, .int .i64 0, .int .i64 0, .int .i64 0, .int .i64 0, .slice u0 0 v0] ∧ Box ((w.alloc (.cells #[.int .i64 1, .int .i64 0, .int .i64 0, .int .i64 0, .int .i64 0, .slice u0 0 v0] 32)).alloc (.cells #[.int .i64 1, .int .i64 0, .int .i64 0, .int .i64 0, .int .i64 0, .slice u1 0 v1] 32)) (w.heap.size + 1) [.int .i64 1, .int .i64 0, .int .i64 0, .int .i64 0, .int .i64 0, .slice u1 0 v1] ∧ Below w.heap.size w ((w.alloc (.cells #[.int .i64 1, .int .i64 0, .int .i64 0, .int .i64 0, .int .i64 0, .slice u0 0 v0] 32)).alloc (.cells #[.int .i64 1, .int .i64 0, .int .i64 0, .int .i64 0, .int .i64 0, .slice u1 0 v1] 32))) := by
    have h1 : Box (w.alloc (.cells #[.int .i64 1, .int .i64 0, .int .i64 0, .int .i64 0, .int .i64 0, .slice u0 0 v0] 32)) w.heap.size [.int .i64 1, .int .i64 0, .int .i64 0, .int .i64 0, .int .i64 0, .slice u0 0 v0] := box_mk
    have h2 : Box ((w.alloc (.cells #[.int .i64 1, .int .i64 0, .int .i64 0, .int .i64 0, .int .i64 0, .slice u0 0 v0] 32)).alloc (.cells #[.int .i64 1, .int .i64 0, .int .i64 0, .int .i64 0, .int .i64 0, .slice u1 0 v1] 32)) (w.alloc (.cells #[.int .i64 1, .int .i64 0, .int .i64 0, .int .i64 0, .int .i64 0, .slice u0 0 v0] 32)).heap.size [.int .i64 1, .int .i64 0, .int .i64 0, .int .i64 0, .int .i64 0, .slice u1 0 v1] := box_mk
    rw [World.alloc_size] at h2
    exact ⟨h1.alloc, h2, (bel_alloc _ _).trans ((bel_alloc _ _).mono (by simp))⟩
  go_enter Try.func19, Try.ntmps19
  go_upto_region 1 with fail
  generalize ((w.alloc (.cells #[.int .i64 1, .int .i64 0, .int .i64 0, .int .i64 0, .int .i64 0, .slice u0 0 v0] 32)).alloc (.cells #[.int .i64 1, .int .i64 0, .int .i64 0, .int .i64 0, .int .i64 0, .slice u1 0 v1] 32)) = W0 at *
  obtain ⟨a_0, a_1, a_2, a_3, a_4, a_5⟩ := X.out.1.c6
  obtain ⟨b_0, b_1, b_2, b_3, b_4, b_5⟩ := X.out.2.1.c6
  go_wp2_with fail
  refine Calls.mono (eqVv_same 0 0 0 _) ?_
  rintro e W1 ⟨rfl, hb⟩
  replace X : Hid (Box W1 w.heap.size [.int .i64 1, .int .i64 0, .int .i64 0, .int .i64 0, .int .i64 0, .slice u0 0 v0] ∧ Box W1 (w.heap.size + 1) [.int .i64 1, .int .i64 0, .int .i64 0, .int .i64 0, .int .i64 0, .slice u1 0 v1] ∧ Below w.heap.size w W1) := ⟨X.out.1.next hb, X.out.2.1.next hb, X.out.2.2.trans (hb.mono X.out.2.2.size)⟩
  clear hb a_0 a_1 a_2 a_3 a_4 a_5 b_0 b_1 b_2 b_3 b_4 b_5
  obtain ⟨a_0, a_1, a_2, a_3, a_4, a_5⟩ := X.out.1.c6
  obtain ⟨b_0, b_1, b_2, b_3, b_4, b_5⟩ := X.out.2.1.c6
  go_wp2_with fail
  refine Calls.mono (eqDotS_nil _ _ _ _ _) ?_
  rintro e W2 ⟨rfl, hb⟩
  replace X : Hid (Box W2 w.heap.size [.int .i64 1, .int .i64 0, .int .i64 0, .int .i64 0, .int .i64 0, .slice u0 0 v0] ∧ Box W2 (w.heap.size + 1) [.int .i64 1, .int .i64 0, .int .i64 0, .int .i64 0, .int .i64 0, .slice u1 0 v1] ∧ Below w.heap.size w W2) := ⟨X.out.1.next hb, X.out.2.1.next hb, X.out.2.2.trans (hb.mono X.out.2.2.size)⟩
  clear hb a_0 a_1 a_2 a_3 a_4 a_5 b_0 b_1 b_2 b_3 b_4 b_5
  obtain ⟨a_0, a_1, a_2, a_3, a_4, a_5⟩ := X.out.1.c6
  obtain ⟨b_0, b_1, b_2, b_3, b_4, b_5⟩ := X.out.2.1.c6
  go_wp2
  go_ret
  exact ⟨rfl, X.out.2.2⟩

set_option maxHeartbeats 2000000 in
theorem markGroup_new (v0 : Nat) (u0 : Option Addr) (k : Int) (hk : 0 ≤ k) (w : World) : Calls Try.prog 23 #[.agg #[.int .i64 1, .int .i64 0, .int .i64 0, .int .i64 0, .int .i64 0, .slice u0 0 v0], .int .i64 k] w fun e w' => e = .returned (.int .i64 k) ∧ Below w.heap.size w w' := by
  have X : Hid (Box (w.alloc (.cells #[.int .i64 1, .int .i64 0, .int .i64 0, .int .i64 0, .int .i64 0, .slice u0 0 v0] 32)) w.heap.size [.int .i64 1, .int .i64 0, .int .i64 0, .int .i64 0, .int .i64 0, .slice u0 0 v0] ∧ Below w.heap.size w (w.alloc (.cells #[.int .i64 1, .int .i64 0, .int .i64 0, .int .i64 0, .int .i64 0, .slice u0 0 v0] 32))) := ⟨box_mk, bel_alloc _ _⟩
  have HK : ¬ k < 0 := by omega
  go_enter Try.func23, Try.ntmps23
  go_upto_region 1 with fail
  generalize (w.alloc (.cells #[.int .i64 1, .int .i64 0, .int .i64 0, .int .i64 0, .int .i64 0, .slice u0 0 v0] 32)) = W0 at *
  obtain ⟨a_0, a_1, a_2, a_3, a_4, a_5⟩ := X.out.1.c6
  go_wp2_with fail
  refine Calls.mono (markDotS_nil _ _ _ _) ?_
  rintro e W1 ⟨rfl, hb⟩
  replace X : Hid (Box W1 w.heap.size [.int .i64 1, .int .i64 0, .int .i64 0, .int .i64 0, .int .i64 0, .slice u0 0 v0] ∧ Below w.heap.size w W1) := ⟨X.out.1.next hb, X.out.2.trans (hb.mono X.out.2.size)⟩
  clear hb a_0 a_1 a_2 a_3 a_4 a_5
  go_wp2
  go_ret
  exact ⟨rfl, X.out.2⟩

set_option maxHeartbeats 2000000 in
theorem heldGroup_new (v0 : Nat) (u0 : Option Addr) (k : Int) (hk : 0 ≤ k) (w : World) : Calls Try.prog 27 #[.agg #[.int .i64 1, .int .i64 0, .int .i64 0, .int .i64 0, .int .i64 0, .slice u0 0 v0], .int .i64 k] w fun e w' => e = .returned (.int .i64 k) ∧ Below w.heap.size w w' := by
  have X : Hid (Box (w.alloc (.cells #[.int .i64 1, .int .i64 0, .int .i64 0, .int .i64 0, .int .i64 0, .slice u0 0 v0] 32)) w.heap.size [.int .i64 1, .int .i64 0, .int .i64 0, .int .i64 0, .int .i64 0, .slice u0 0 v0] ∧ Below w.heap.size w (w.alloc (.cells #[.int .i64 1, .int .i64 0, .int .i64 0, .int .i64 0, .int .i64 0, .slice u0 0 v0] 32))) := ⟨box_mk, bel_alloc _ _⟩
  have HK : ¬ k < 0 := by omega
  go_enter Try.func27, Try.ntmps27
  go_upto_region 1 with fail
  generalize (w.alloc (.cells #[.int .i64 1, .int .i64 0, .int .i64 0, .int .i64 0, .int .i64 0, .slice u0 0 v0] 32)) = W0 at *
  obtain ⟨a_0, a_1, a_2, a_3, a_4, a_5⟩ := X.out.1.c6
  go_wp2_with fail
  refine Calls.mono (heldDotS_nil _ _ _ _) ?_
  rintro e W1 ⟨rfl, hb⟩
  replace X : Hid (Box W1 w.heap.size [.int .i64 1, .int .i64 0, .int .i64 0, .int .i64 0, .int .i64 0, .slice u0 0 v0] ∧ Below w.heap.size w W1) := ⟨X.out.1.next hb, X.out.2.trans (hb.mono X.out.2.size)⟩
  clear hb a_0 a_1 a_2 a_3 a_4 a_5
  go_wp2
  go_ret
  exact ⟨rfl, X.out.2⟩

set_option maxRecDepth 100000 in
set_option maxHeartbeats 2000000 in
theorem eqWorld_new (g0 b0 c0 d0 k0 l0 t0 v0 y0 g1 b1 c1 d1 k1 l1 t1 v1 y1 : Nat) (n0 m0 r0 u0 x0 n1 m1 r1 u1 x1 : Option Addr) (p q : Nat → Option Addr) (s t : Nat → Nat) (w : World) (h1 : Box w g0 (three p s)) (h2 : Box w b0 (bs3 true true true)) (h3 : Box w g1 (three q t)) (h4 : Box w b1 (bs3 true true true)) : Calls Try.prog 7 #[.agg #[.slice (some ⟨g0, 0, none⟩) 3 c0, .slice (some ⟨b0, 0, none⟩) 3 d0, .slice n0 0 k0, .slice m0 0 l0, .slice r0 0 t0, .int .i64 1, .int .i64 0, .int .i64 0, .int .i64 0, .int .i64 0, .slice u0 0 v0, .slice x0 0 y0], .agg #[.slice (some ⟨g1, 0, none⟩) 3 c1, .slice (some ⟨b1, 0, none⟩) 3 d1, .slice n1 0 k1, .slice m1 0 l1, .slice r1 0 t1, .int .i64 1, .int .i64 0, .int .i64 0, .int .i64 0, .int .i64 0, .slice u1 0 v1, .slice x1 0 y1]] w fun e w' => e = .returned (.bool true) ∧ Below w.heap.size w w' := by
  have X : Hid (Box ((w.alloc (.cells #[.slice (some ⟨g0, 0, none⟩) 3 c0, .slice (some ⟨b0, 0, none⟩) 3 d0, .slice n0 0 k0, .slice m0 0 l0, .slice r0 0 t0, .int .i64 1, .int .i64 0, .int .i64 0, .int .i64 0, .int .i64 0, .slice u0 0 v0, .slice x0 0 y0] 35)).alloc (.cells #[.slice (some ⟨g1, 0, none⟩) 3 c1, .slice (some ⟨b1, 0, none⟩) 3 d1, .slice n1 0 k1, .slice m1 0 l1, .slice r1 0 t1, .int .i64 1, .int .i64 0, .int .i64 0, .int .i64 0, .int .i64 0, .slice u1 0 v1, .slice x1 0 y1] 35)) w.heap.size [.slice (some ⟨g0, 0, none⟩) 3 c0, .slice (some ⟨b0, 0, none⟩) 3 d0, .slice n0 0 k0, .slice m0 0 l0, .slice r0 0 t0, .int .i64 1, .int .i64 0, .int .i64 0, .int .i64 0, .int .i64 0, .slice u0 0 v0, .slice x0 0 y0] ∧ Box ((w.alloc (.cells #[.slice (some ⟨g0, 0, none⟩) 3 c0, .slice (some ⟨b0, 0, none⟩) 3 d0, .slice n0 0 k0, .slice m0 0 l0, .slice r0 0 t0, .int .i64 1, .int .i64 0, .int .i64 0, .int .i64 0, .int .i64 0, .slice u0 0 v0, .slice x0 0 y0] 35)).alloc (.cells #[.slice (some ⟨g1, 0, none⟩) 3 c1, .slice (some ⟨b1, 0, none⟩) 3 d1, .slice n1 0 k1, .slice m1 0 l1, .slice r1 0 t1, .int .i64 1, .int .i64 0, .int .i64 0, .int .i64 0, .int .i64 0, .slice u1 0 v1, .slice x1 0 y1] 35)) (w.heap.size + 1) [.slice (some ⟨g1, 0, none⟩) 3 c1, .slice (some ⟨b1, 0, none⟩) 3 d1, .slice n1 0 k1, .slice m1 0 l1, .slice r1 0 t1, .int .i64 1, .int .i64 0, .int .i64 0, .int .i64 0, .int .i64 0, .slice u1 0 v1, .slice x1 0 y1] ∧ Below w.heap.size w ((w.alloc (.cells #[.slice (some ⟨g0, 0, none⟩) 3 c0, .slice (some ⟨b0, 0, none⟩) 3 d0, .slice n0 0 k0, .slice m0 0 l0, .slice r0 0 t0, .int .i64 1, .int .i64 0, .int .i64 0, .int .i64 0, .int .i64 0, .slice u0 0 v0, .slice x0 0 y0] 35)).alloc (.cells #[.slice (some ⟨g1, 0, none⟩) 3 c1, .slice (some ⟨b1, 0, none⟩) 3 d1, .slice n1 0 k1, .slice m1 0 l1, .slice r1 0 t1, .int .i64 1, .int .i64 0, .int .i64 0, .int .i64 0, .int .i64 0, .slice u1 0 v1, .slice x1 0 y1] 35))) := by
    have h1 : Box (w.alloc (.cells #[.slice (some ⟨g0, 0, none⟩) 3 c0, .slice (some ⟨b0, 0, none⟩) 3 d0, .slice n0 0 k0, .slice m0 0 l0, .slice r0 0 t0, .int .i64 1, .int .i64 0, .int .i64 0, .int .i64 0, .int .i64 0, .slice u0 0 v0, .slice x0 0 y0] 35)) w.heap.size [.slice (some ⟨g0, 0, none⟩) 3 c0, .slice (some ⟨b0, 0, none⟩) 3 d0, .slice n0 0 k0, .slice m0 0 l0, .slice r0 0 t0, .int .i64 1, .int .i64 0, .int .i64 0, .int .i64 0, .int .i64 0, .slice u0 0 v0, .slice x0 0 y0] := box_mk
    have h2 : Box ((w.alloc (.cells #[.slice (some ⟨g0, 0, none⟩) 3 c0, .slice (some ⟨b0, 0, none⟩) 3 d0, .slice n0 0 k0, .slice m0 0 l0, .slice r0 0 t0, .int .i64 1, .int .i64 0, .int .i64 0, .int .i64 0, .int .i64 0, .slice u0 0 v0, .slice x0 0 y0] 35)).alloc (.cells #[.slice (some ⟨g1, 0, none⟩) 3 c1, .slice (some ⟨b1, 0, none⟩) 3 d1, .slice n1 0 k1, .slice m1 0 l1, .slice r1 0 t1, .int .i64 1, .int .i64 0, .int .i64 0, .int .i64 0, .int .i64 0, .slice u1 0 v1, .slice x1 0 y1] 35)) (w.alloc (.cells #[.slice (some ⟨g0, 0, none⟩) 3 c0, .slice (some ⟨b0, 0, none⟩) 3 d0, .slice n0 0 k0, .slice m0 0 l0, .slice r0 0 t0, .int .i64 1, .int .i64 0, .int .i64 0, .int .i64 0, .int .i64 0, .slice u0 0 v0, .slice x0 0 y0] 35)).heap.size [.slice (some ⟨g1, 0, none⟩) 3 c1, .slice (some ⟨b1, 0, none⟩) 3 d1, .slice n1 0 k1, .slice m1 0 l1, .slice r1 0 t1, .int .i64 1, .int .i64 0, .int .i64 0, .int .i64 0, .int .i64 0, .slice u1 0 v1, .slice x1 0 y1] := box_mk
    rw [World.alloc_size] at h2
    exact ⟨h1.alloc, h2, (bel_alloc _ _).trans ((bel_alloc _ _).mono (by simp))⟩
  have H1 : Hid (Box w g0 (three p s) ∧ Box w g1 (three q t)) := ⟨h1, h3⟩
  have H2 : Hid (Box w b0 (bs3 true true true) ∧ Box w b1 (bs3 true true true)) := ⟨h2, h4⟩
  clear h1 h2 h3 h4
  go_enter Try.func7, Try.ntmps7
  go_upto_region 1 with fail
  generalize ((w.alloc (.cells #[.slice (some ⟨g0, 0, none⟩) 3 c0, .slice (some ⟨b0, 0, none⟩) 3 d0, .slice n0 0 k0, .slice m0 0 l0, .slice r0 0 t0, .int .i64 1, .int .i64 0, .int .i64 0, .int .i64 0, .int .i64 0, .slice u0 0 v0, .slice x0 0 y0] 35)).alloc (.cells #[.slice (some ⟨g1, 0, none⟩) 3 c1, .slice (some ⟨b1, 0, none⟩) 3 d1, .slice n1 0 k1, .slice m1 0 l1, .slice r1 0 t1, .int .i64 1, .int .i64 0, .int .i64 0, .int .i64 0, .int .i64 0, .slice u1 0 v1, .slice x1 0 y1] 35)) = W0 at *
  obtain ⟨a_0, a_1, a_2, a_3, a_4, a_5, a_6, a_7, a_8, a_9, a_10, a_11⟩ := X.out.1.c12
  obtain ⟨b_0, b_1, b_2, b_3, b_4, b_5, b_6, b_7, b_8, b_9, b_10, b_11⟩ := X.out.2.1.c12
  go_wp2_with fail
  refine Calls.mono (eqCluster_yes _ _ _ _ _ _ _ _ _ _ _ _ _ _ _ _ _ _ _ _ _ _ _ _ (H1.out.1.next X.out.2.2) (H2.out.1.next X.out.2.2) (H1.out.2.next X.out.2.2) (H2.out.2.next X.out.2.2)) ?_
  rintro e W1 ⟨rfl, hb⟩
  replace X : Hid (Box W1 w.heap.size [.slice (some ⟨g0, 0, none⟩) 3 c0, .slice (some ⟨b0, 0, none⟩) 3 d0, .slice n0 0 k0, .slice m0 0 l0, .slice r0 0 t0, .int .i64 1, .int .i64 0, .int .i64 0, .int .i64 0, .int .i64 0, .slice u0 0 v0, .slice x0 0 y0] ∧ Box W1 (w.heap.size + 1) [.slice (some ⟨g1, 0, none⟩) 3 c1, .slice (some ⟨b1, 0, none⟩) 3 d1, .slice n1 0 k1, .slice m1 0 l1, .slice r1 0 t1, .int .i64 1, .int .i64 0, .int .i64 0, .int .i64 0, .int .i64 0, .slice u1 0 v1, .slice x1 0 y1] ∧ Below w.heap.size w W1) := ⟨X.out.1.next hb, X.out.2.1.next hb, X.out.2.2.trans (hb.mono X.out.2.2.size)⟩
  clear hb a_0 a_1 a_2 a_3 a_4 a_5 a_6 a_7 a_8 a_9 a_10 a_11 b_0 b_1 b_2 b_3 b_4 b_5 b_6 b_7 b_8 b_9 b_10 b_11
  obtain ⟨a_0, a_1, a_2, a_3, a_4, a_5, a_6, a_7, a_8, a_9, a_10, a_11⟩ := X.out.1.c12
  obtain ⟨b_0, b_1, b_2, b_3, b_4, b_5, b_6, b_7, b_8, b_9, b_10, b_11⟩ := X.out.2.1.c12
  go_wp2_with fail
  refine Calls.mono (eqEventS_nil _ _ _ _ _) ?_
  rintro e W2 ⟨rfl, hb⟩
  replace X : Hid (Box W2 w.heap.size [.slice (some ⟨g0, 0, none⟩) 3 c0, .slice (some ⟨b0, 0, none⟩) 3 d0, .slice n0 0 k0, .slice m0 0 l0, .slice r0 0 t0, .int .i64 1, .int .i64 0, .int .i64 0, .int .i64 0, .int .i64 0, .slice u0 0 v0, .slice x0 0 y0] ∧ Box W2 (w.heap.size + 1) [.slice (some ⟨g1, 0, none⟩) 3 c1, .slice (some ⟨b1, 0, none⟩) 3 d1, .slice n1 0 k1, .slice m1 0 l1, .slice r1 0 t1, .int .i64 1, .int .i64 0, .int .i64 0, .int .i64 0, .int .i64 0, .slice u1 0 v1, .slice x1 0 y1] ∧ Below w.heap.size w W2) := ⟨X.out.1.next hb, X.out.2.1.next hb, X.out.2.2.trans (hb.mono X.out.2.2.size)⟩
  clear hb a_0 a_1 a_2 a_3 a_4 a_5 a_6 a_7 a_8 a_9 a_10 a_11 b_0 b_1 b_2 b_3 b_4 b_5 b_6 b_7 b_8 b_9 b_10 b_11
  obtain ⟨a_0, a_1, a_2, a_3, a_4, a_5, a_6, a_7, a_8, a_9, a_10, a_11⟩ := X.out.1.c12
  obtain ⟨b_0, b_1, b_2, b_3, b_4, b_5, b_6, b_7, b_8, b_9, b_10, b_11⟩ := X.out.2.1.c12
  go_wp2_with fail
  refine Calls.mono (eqGroup_new _ _ _ _ _) ?_
  rintro e W3 ⟨rfl, hb⟩
  replace X : Hid (Box W3 w.heap.size [.slice (some ⟨g0, 0, none⟩) 3 c0, .slice (some ⟨b0, 0, none⟩) 3 d0, .slice n0 0 k0, .slice m0 0 l0, .slice r0 0 t0, .int .i64 1, .int .i64 0, .int .i64 0, .int .i64 0, .int .i64 0, .slice u0 0 v0, .slice x0 0 y0] ∧ Box W3 (w.heap.size + 1) [.slice (some ⟨g1, 0, none⟩) 3 c1, .slice (some ⟨b1, 0, none⟩) 3 d1, .slice n1 0 k1, .slice m1 0 l1, .slice r1 0 t1, .int .i64 1, .int .i64 0, .int .i64 0, .int .i64 0, .int .i64 0, .slice u1 0 v1, .slice x1 0 y1] ∧ Below w.heap.size w W3) := ⟨X.out.1.next hb, X.out.2.1.next hb, X.out.2.2.trans (hb.mono X.out.2.2.size)⟩
  clear hb a_0 a_1 a_2 a_3 a_4 a_5 a_6 a_7 a_8 a_9 a_10 a_11 b_0 b_1 b_2 b_3 b_4 b_5 b_6 b_7 b_8 b_9 b_10 b_11
  obtain ⟨a_0, a_1, a_2, a_3, a_4, a_5, a_6, a_7, a_8, a_9, a_10, a_11⟩ := X.out.1.c12
  obtain ⟨b_0, b_1, b_2, b_3, b_4, b_5, b_6, b_7, b_8, b_9, b_10, b_11⟩ := X.out.2.1.c12
  go_wp2_with fail
  refine Calls.mono (eqRowS_nil _ _ _ _ _) ?_
  rintro e W4 ⟨rfl, hb⟩
  replace X : Hid (Box W4 w.heap.size [.slice (some ⟨g0, 0, none⟩) 3 c0, .slice (some ⟨b0, 0, none⟩) 3 d0, .slice n0 0 k0, .slice m0 0 l0, .slice r0 0 t0, .int .i64 1, .int .i64 0, .int .i64 0, .int .i64 0, .int .i64 0, .slice u0 0 v0, .slice x0 0 y0] ∧ Box W4 (w.heap.size + 1) [.slice (some ⟨g1, 0, none⟩) 3 c1, .slice (some ⟨b1, 0, none⟩) 3 d1, .slice n1 0 k1, .slice m1 0 l1, .slice r1 0 t1, .int .i64 1, .int .i64 0, .int .i64 0, .int .i64 0, .int .i64 0, .slice u1 0 v1, .slice x1 0 y1] ∧ Below w.heap.size w W4) := ⟨X.out.1.next hb, X.out.2.1.next hb, X.out.2.2.trans (hb.mono X.out.2.2.size)⟩
  clear hb a_0 a_1 a_2 a_3 a_4 a_5 a_6 a_7 a_8 a_9 a_10 a_11 b_0 b_1 b_2 b_3 b_4 b_5 b_6 b_7 b_8 b_9 b_10 b_11
  obtain ⟨a_0, a_1, a_2, a_3, a_4, a_5, a_6, a_7, a_8, a_9, a_10, a_11⟩ := X.out.1.c12
  obtain ⟨b_0, b_1, b_2, b_3, b_4, b_5, b_6, b_7, b_8, b_9, b_10, b_11⟩ := X.out.2.1.c12
  go_wp2
  go_ret
  exact ⟨rfl, X.out.2.2⟩

set_option maxRecDepth 100000 in
set_option maxHeartbeats 2000000 in
theorem markWorld_new (g0 b0 c0 d0 k0 l0 t0 v0 y0 : Nat) (n0 m0 r0 u0 x0 : Option Addr) (p : Nat → Option Addr) (s : Nat → Nat) (w : World) (h1 : Box w g0 (three p s)) (h2 : Box w b0 (bs3 true true true)) (hne : g0 ≠ b0) :
    Calls Try.prog 8 #[.agg #[.slice (some ⟨g0, 0, none⟩) 3 c0, .slice (some ⟨b0, 0, none⟩) 3 d0, .slice n0 0 k0, .slice m0 0 l0, .slice r0 0 t0, .int .i64 1, .int .i64 0, .int .i64 0, .int .i64 0, .int .i64 0, .slice u0 0 v0, .slice x0 0 y0], .int .i64 1] w fun e w' => e = .returned (.int .i64 13) ∧ Box w' g0 (three' p s) ∧ Box w' b0 (bs3 false false true) ∧ Kp (fun x => x = g0 ∨ x = b0) w w' := by
  have X : Hid (Box (w.alloc (.cells #[.slice (some ⟨g0, 0, none⟩) 3 c0, .slice (some ⟨b0, 0, none⟩) 3 d0, .slice n0 0 k0, .slice m0 0 l0, .slice r0 0 t0, .int .i64 1, .int .i64 0, .int .i64 0, .int .i64 0, .int .i64 0, .slice u0 0 v0, .slice x0 0 y0] 35)) w.heap.size [.slice (some ⟨g0, 0, none⟩) 3 c0, .slice (some ⟨b0, 0, none⟩) 3 d0, .slice n0 0 k0, .slice m0 0 l0, .slice r0 0 t0, .int .i64 1, .int .i64 0, .int .i64 0, .int .i64 0, .int .i64 0, .slice u0 0 v0, .slice x0 0 y0] ∧ Box (w.alloc (.cells #[.slice (some ⟨g0, 0, none⟩) 3 c0, .slice (some ⟨b0, 0, none⟩) 3 d0, .slice n0 0 k0, .slice m0 0 l0, .slice r0 0 t0, .int .i64 1, .int .i64 0, .int .i64 0, .int .i64 0, .int .i64 0, .slice u0 0 v0, .slice x0 0 y0] 35)) g0 (three p s) ∧ Box (w.alloc (.cells #[.slice (some ⟨g0, 0, none⟩) 3 c0, .slice (some ⟨b0, 0, none⟩) 3 d0, .slice n0 0 k0, .slice m0 0 l0, .slice r0 0 t0, .int .i64 1, .int .i64 0, .int .i64 0, .int .i64 0, .int .i64 0, .slice u0 0 v0, .slice x0 0 y0] 35)) b0 (bs3 true true true) ∧ Kp (fun x => x = g0 ∨ x = b0) w (w.alloc (.cells #[.slice (some ⟨g0, 0, none⟩) 3 c0, .slice (some ⟨b0, 0, none⟩) 3 d0, .slice n0 0 k0, .slice m0 0 l0, .slice r0 0 t0, .int .i64 1, .int .i64 0, .int .i64 0, .int .i64 0, .int .i64 0, .slice u0 0 v0, .slice x0 0 y0] 35))) := ⟨box_mk, h1.alloc, h2.alloc, Kp.of_below (bel_alloc _ _)⟩
  have HG : Hid (g0 < w.heap.size ∧ b0 < w.heap.size ∧ g0 ≠ b0) := ⟨h1.lt, h2.lt, hne⟩
  clear h1 h2 hne
  go_enter Try.func8, Try.ntmps8
  go_upto_region 1 with fail
  generalize (w.alloc (.cells #[.slice (some ⟨g0, 0, none⟩) 3 c0, .slice (some ⟨b0, 0, none⟩) 3 d0, .slice n0 0 k0, .slice m0 0 l0, .slice r0 0 t0, .int .i64 1, .int .i64 0, .int .i64 0, .int .i64 0, .int .i64 0, .slice u0 0 v0, .slice x0 0 y0] 35)) = W0 at *
  obtain ⟨a_0, a_1, a_2, a_3, a_4, a_5, a_6, a_7, a_8, a_9, a_10, a_11⟩ := X.out.1.c12
  go_wp2_with fail
  refine Calls.mono (markCluster_new _ _ _ _ _ _ _ _ _ _ _ _ _ _ X.out.2.1 X.out.2.2.1 HG.out.2.2) ?_
  rintro e W1 ⟨rfl, hA, hB, hK⟩
  replace X : Hid (Box W1 w.heap.size [.slice (some ⟨g0, 0, none⟩) 3 c0, .slice (some ⟨b0, 0, none⟩) 3 d0, .slice n0 0 k0, .slice m0 0 l0, .slice r0 0 t0, .int .i64 1, .int .i64 0, .int .i64 0, .int .i64 0, .int .i64 0, .slice u0 0 v0, .slice x0 0 y0] ∧ Box W1 g0 (three' p s) ∧ Box W1 b0 (bs3 false false true) ∧ Kp (fun x => x = g0 ∨ x = b0) w W1) := ⟨X.out.1.kp hK (by have := HG.out; omega), hA, hB, X.out.2.2.2.trans hK (fun _ _ h => h) (fun _ _ h => h)⟩
  clear hA hB hK a_0 a_1 a_2 a_3 a_4 a_5 a_6 a_7 a_8 a_9 a_10 a_11
  obtain ⟨a_0, a_1, a_2, a_3, a_4, a_5, a_6, a_7, a_8, a_9, a_10, a_11⟩ := X.out.1.c12
  go_wp2_with fail
  refine Calls.mono (markEventS_nil _ _ _ _) ?_
  rintro e W2 ⟨rfl, hb⟩
  replace X : Hid (Box W2 w.heap.size [.slice (some ⟨g0, 0, none⟩) 3 c0, .slice (some ⟨b0, 0, none⟩) 3 d0, .slice n0 0 k0, .slice m0 0 l0, .slice r0 0 t0, .int .i64 1, .int .i64 0, .int .i64 0, .int .i64 0, .int .i64 0, .slice u0 0 v0, .slice x0 0 y0] ∧ Box W2 g0 (three' p s) ∧ Box W2 b0 (bs3 false false true) ∧ Kp (fun x => x = g0 ∨ x = b0) w W2) := ⟨X.out.1.next hb, X.out.2.1.next hb, X.out.2.2.1.next hb, X.out.2.2.2.trans (Kp.of_below hb) (fun _ _ h => h) (fun _ _ h => h)⟩
  clear hb a_0 a_1 a_2 a_3 a_4 a_5 a_6 a_7 a_8 a_9 a_10 a_11
  obtain ⟨a_0, a_1, a_2, a_3, a_4, a_5, a_6, a_7, a_8, a_9, a_10, a_11⟩ := X.out.1.c12
  go_wp2_with fail
  refine Calls.mono (markGroup_new _ _ _ (by decide) _) ?_
  rintro e W3 ⟨rfl, hb⟩
  replace X : Hid (Box W3 w.heap.size [.slice (some ⟨g0, 0, none⟩) 3 c0, .slice (some ⟨b0, 0, none⟩) 3 d0, .slice n0 0 k0, .slice m0 0 l0, .slice r0 0 t0, .int .i64 1, .int .i64 0, .int .i64 0, .int .i64 0, .int .i64 0, .slice u0 0 v0, .slice x0 0 y0] ∧ Box W3 g0 (three' p s) ∧ Box W3 b0 (bs3 false false true) ∧ Kp (fun x => x = g0 ∨ x = b0) w W3) := ⟨X.out.1.next hb, X.out.2.1.next hb, X.out.2.2.1.next hb, X.out.2.2.2.trans (Kp.of_below hb) (fun _ _ h => h) (fun _ _ h => h)⟩
  clear hb a_0 a_1 a_2 a_3 a_4 a_5 a_6 a_7 a_8 a_9 a_10 a_11
  obtain ⟨a_0, a_1, a_2, a_3, a_4, a_5, a_6, a_7, a_8, a_9, a_10, a_11⟩ := X.out.1.c12
  go_wp2_with fail
  refine Calls.mono (markRowS_nil _ _ _ _) ?_
  rintro e W4 ⟨rfl, hb⟩
  replace X : Hid (Box W4 w.heap.size [.slice (some ⟨g0, 0, none⟩) 3 c0, .slice (some ⟨b0, 0, none⟩) 3 d0, .slice n0 0 k0, .slice m0 0 l0, .slice r0 0 t0, .int .i64 1, .int .i64 0, .int .i64 0, .int .i64 0, .int .i64 0, .slice u0 0 v0, .slice x0 0 y0] ∧ Box W4 g0 (three' p s) ∧ Box W4 b0 (bs3 false false true) ∧ Kp (fun x => x = g0 ∨ x = b0) w W4) := ⟨X.out.1.next hb, X.out.2.1.next hb, X.out.2.2.1.next hb, X.out.2.2.2.trans (Kp.of_below hb) (fun _ _ h => h) (fun _ _ h => h)⟩
  clear hb a_0 a_1 a_2 a_3 a_4 a_5 a_6 a_7 a_8 a_9 a_10 a_11
  obtain ⟨a_0, a_1, a_2, a_3, a_4, a_5, a_6, a_7, a_8, a_9, a_10, a_11⟩ := X.out.1.c12
  go_wp2
  go_ret
  exact ⟨rfl, X.out.2.1, X.out.2.2.1, X.out.2.2.2⟩

set_option maxRecDepth 100000 in
set_option maxHeartbeats 2000000 in
theorem heldWorld_new (g0 b0 c0 d0 k0 l0 t0 v0 y0 : Nat) (n0 m0 r0 u0 x0 : Option Addr) (p : Nat → Option Addr) (s : Nat → Nat) (w : World) (h1 : Box w g0 (three' p s)) (h2 : Box w b0 (bs3 false false true)) :
    Calls Try.prog 9 #[.agg #[.slice (some ⟨g0, 0, none⟩) 3 c0, .slice (some ⟨b0, 0, none⟩) 3 d0, .slice n0 0 k0, .slice m0 0 l0, .slice r0 0 t0, .int .i64 1, .int .i64 0, .int .i64 0, .int .i64 0, .int .i64 0, .slice u0 0 v0, .slice x0 0 y0], .int .i64 1] w fun e w' => e = .returned (.int .i64 13) ∧ Below w.heap.size w w' := by
  have X : Hid (Box (w.alloc (.cells #[.slice (some ⟨g0, 0, none⟩) 3 c0, .slice (some ⟨b0, 0, none⟩) 3 d0, .slice n0 0 k0, .slice m0 0 l0, .slice r0 0 t0, .int .i64 1, .int .i64 0, .int .i64 0, .int .i64 0, .int .i64 0, .slice u0 0 v0, .slice x0 0 y0] 35)) w.heap.size [.slice (some ⟨g0, 0, none⟩) 3 c0, .slice (some ⟨b0, 0, none⟩) 3 d0, .slice n0 0 k0, .slice m0 0 l0, .slice r0 0 t0, .int .i64 1, .int .i64 0, .int .i64 0, .int .i64 0, .int .i64 0, .slice u0 0 v0, .slice x0 0 y0] ∧ Box (w.alloc (.cells #[.slice (some ⟨g0, 0, none⟩) 3 c0, .slice (some ⟨b0, 0, none⟩) 3 d0, .slice n0 0 k0, .slice m0 0 l0, .slice r0 0 t0, .int .i64 1, .int .i64 0, .int .i64 0, .int .i64 0, .int .i64 0, .slice u0 0 v0, .slice x0 0 y0] 35)) g0 (three' p s) ∧ Box (w.alloc (.cells #[.slice (some ⟨g0, 0, none⟩) 3 c0, .slice (some ⟨b0, 0, none⟩) 3 d0, .slice n0 0 k0, .slice m0 0 l0, .slice r0 0 t0, .int .i64 1, .int .i64 0, .int .i64 0, .int .i64 0, .int .i64 0, .slice u0 0 v0, .slice x0 0 y0] 35)) b0 (bs3 false false true) ∧ Below w.heap.size w (w.alloc (.cells #[.slice (some ⟨g0, 0, none⟩) 3 c0, .slice (some ⟨b0, 0, none⟩) 3 d0, .slice n0 0 k0, .slice m0 0 l0, .slice r0 0 t0, .int .i64 1, .int .i64 0, .int .i64 0, .int .i64 0, .int .i64 0, .slice u0 0 v0, .slice x0 0 y0] 35))) := ⟨box_mk, h1.alloc, h2.alloc, bel_alloc _ _⟩
  clear h1 h2
  go_enter Try.func9, Try.ntmps9
  go_upto_region 1 with fail
  generalize (w.alloc (.cells #[.slice (some ⟨g0, 0, none⟩) 3 c0, .slice (some ⟨b0, 0, none⟩) 3 d0, .slice n0 0 k0, .slice m0 0 l0, .slice r0 0 t0, .int .i64 1, .int .i64 0, .int .i64 0, .int .i64 0, .int .i64 0, .slice u0 0 v0, .slice x0 0 y0] 35)) = W0 at *
  obtain ⟨a_0, a_1, a_2, a_3, a_4, a_5, a_6, a_7, a_8, a_9, a_10, a_11⟩ := X.out.1.c12
  go_wp2_with fail
  refine Calls.mono (heldCluster_new _ _ _ _ _ _ _ _ _ _ _ X.out.2.1 X.out.2.2.1) ?_
  rintro e W1 ⟨rfl, hb⟩
  replace X : Hid (Box W1 w.heap.size [.slice (some ⟨g0, 0, none⟩) 3 c0, .slice (some ⟨b0, 0, none⟩) 3 d0, .slice n0 0 k0, .slice m0 0 l0, .slice r0 0 t0, .int .i64 1, .int .i64 0, .int .i64 0, .int .i64 0, .int .i64 0, .slice u0 0 v0, .slice x0 0 y0] ∧ Box W1 g0 (three' p s) ∧ Box W1 b0 (bs3 false false true) ∧ Below w.heap.size w W1) := ⟨X.out.1.next hb, X.out.2.1.next hb, X.out.2.2.1.next hb, X.out.2.2.2.trans (hb.mono X.out.2.2.2.size)⟩
  clear hb a_0 a_1 a_2 a_3 a_4 a_5 a_6 a_7 a_8 a_9 a_10 a_11
  obtain ⟨a_0, a_1, a_2, a_3, a_4, a_5, a_6, a_7, a_8, a_9, a_10, a_11⟩ := X.out.1.c12
  go_wp2_with fail
  refine Calls.mono (heldEventS_nil _ _ _ _) ?_
  rintro e W2 ⟨rfl, hb⟩
  replace X : Hid (Box W2 w.heap.size [.slice (some ⟨g0, 0, none⟩) 3 c0, .slice (some ⟨b0, 0, none⟩) 3 d0, .slice n0 0 k0, .slice m0 0 l0, .slice r0 0 t0, .int .i64 1, .int .i64 0, .int .i64 0, .int .i64 0, .int .i64 0, .slice u0 0 v0, .slice x0 0 y0] ∧ Box W2 g0 (three' p s) ∧ Box W2 b0 (bs3 false false true) ∧ Below w.heap.size w W2) := ⟨X.out.1.next hb, X.out.2.1.next hb, X.out.2.2.1.next hb, X.out.2.2.2.trans (hb.mono X.out.2.2.2.size)⟩
  clear hb a_0 a_1 a_2 a_3 a_4 a_5 a_6 a_7 a_8 a_9 a_10 a_11
  obtain ⟨a_0, a_1, a_2, a_3, a_4, a_5, a_6, a_7, a_8, a_9, a_10, a_11⟩ := X.out.1.c12
  go_wp2_with fail
  refine Calls.mono (heldGroup_new _ _ _ (by decide) _) ?_
  rintro e W3 ⟨rfl, hb⟩
  replace X : Hid (Box W3 w.heap.size [.slice (some ⟨g0, 0, none⟩) 3 c0, .slice (some ⟨b0, 0, none⟩) 3 d0, .slice n0 0 k0, .slice m0 0 l0, .slice r0 0 t0, .int .i64 1, .int .i64 0, .int .i64 0, .int .i64 0, .int .i64 0, .slice u0 0 v0, .slice x0 0 y0] ∧ Box W3 g0 (three' p s) ∧ Box W3 b0 (bs3 false false true) ∧ Below w.heap.size w W3) := ⟨X.out.1.next hb, X.out.2.1.next hb, X.out.2.2.1.next hb, X.out.2.2.2.trans (hb.mono X.out.2.2.2.size)⟩
  clear hb a_0 a_1 a_2 a_3 a_4 a_5 a_6 a_7 a_8 a_9 a_10 a_11
  obtain ⟨a_0, a_1, a_2, a_3, a_4, a_5, a_6, a_7, a_8, a_9, a_10, a_11⟩ := X.out.1.c12
  go_wp2_with fail
  refine Calls.mono (heldRowS_nil _ _ _ _) ?_
  rintro e W4 ⟨rfl, hb⟩
  replace X : Hid (Box W4 w.heap.size [.slice (some ⟨g0, 0, none⟩) 3 c0, .slice (some ⟨b0, 0, none⟩) 3 d0, .slice n0 0 k0, .slice m0 0 l0, .slice r0 0 t0, .int .i64 1, .int .i64 0, .int .i64 0, .int .i64 0, .int .i64 0, .slice u0 0 v0, .slice x0 0 y0] ∧ Box W4 g0 (three' p s) ∧ Box W4 b0 (bs3 false false true) ∧ Below w.heap.size w W4) := ⟨X.out.1.next hb, X.out.2.1.next hb, X.out.2.2.1.next hb, X.out.2.2.2.trans (hb.mono X.out.2.2.2.size)⟩
  clear hb a_0 a_1 a_2 a_3 a_4 a_5 a_6 a_7 a_8 a_9 a_10 a_11
  obtain ⟨a_0, a_1, a_2, a_3, a_4, a_5, a_6, a_7, a_8, a_9, a_10, a_11⟩ := X.out.1.c12
  go_wp2
  go_ret
  exact ⟨rfl, X.out.2.2.2⟩

theorem bel_set12 {w W : World} {base q : Nat} {s0 s1 s2 s3 s4 s5 s6 s7 s8 s9 s10 s11 : Value} (h : Below base w W) (hq : base ≤ q) : Below base w ((((((((((((W.setCell ⟨q, 0, none⟩ s0).setCell ⟨q, 1, none⟩ s1).setCell ⟨q, 2, none⟩ s2).setCell ⟨q, 3, none⟩ s3).setCell ⟨q, 4, none⟩ s4).setCell ⟨q, 5, none⟩ s5).setCell ⟨q, 6, none⟩ s6).setCell ⟨q, 7, none⟩ s7).setCell ⟨q, 8, none⟩ s8).setCell ⟨q, 9, none⟩ s9).setCell ⟨q, 10, none⟩ s10).setCell ⟨q, 11, none⟩ s11) := ((((((((((((h.setCell hq _).setCell hq _).setCell hq _).setCell hq _).setCell hq _).setCell hq _).setCell hq _).setCell hq _).setCell hq _).setCell hq _).setCell hq _).setCell hq _)
set_option maxHeartbeats 1000000 in
theorem specGroup_new (w : World) : Calls Try.prog 37 #[] w fun e w' => ∃ p, e = .returned (.agg #[.int .i64 1, .int .i64 0, .int .i64 0, .int .i64 0, .int .i64 0, .slice p 0 0]) ∧ Below w.heap.size w w' := by
  go_enter Try.func37, Try.ntmps37
  go_wp2
  refine bodyPost_ret (v := .agg #[.int .i64 1, .int .i64 0, .int .i64 0, .int .i64 0, .int .i64 0, .slice (some ⟨w.heap.size + 1, 0, none⟩) 0 0]) (by simp [results, Try.results37, go_sem]) rfl ?_
  refine ⟨_, rfl, ?_⟩
  repeat (first | exact Below.refl _ _ | refine Below.drew ?_ | refine below_drewN ?_ _ | refine Below.alloc ?_ (by first | (simp; done) | (simp; omega)) _ | refine Below.setCell ?_ (by first | (simp; done) | (simp; omega)) _)
set_option maxHeartbeats 1000000 in
theorem implGroup_new (w : World) : Calls Try.prog 16 #[] w fun e w' => e = .returned (.agg #[.int .i64 1, .int .i64 0, .int .i64 0, .int .i64 0, .int .i64 0, .slice none 0 0]) ∧ Below w.heap.size w w' := by
  go_enter Try.func16, Try.ntmps16
  go_wp2
  refine bodyPost_ret (v := .agg #[.int .i64 1, .int .i64 0, .int .i64 0, .int .i64 0, .int .i64 0, .slice none 0 0]) (by simp [results, Try.results16, go_sem]) rfl ?_
  refine ⟨rfl, ?_⟩
  repeat (first | exact Below.refl _ _ | refine Below.drew ?_ | refine below_drewN ?_ _ | refine Below.alloc ?_ (by first | (simp; done) | (simp; omega)) _ | refine Below.setCell ?_ (by first | (simp; done) | (simp; omega)) _)
/-- What a call that makes a new world leaves. -/
def NwW (w : World) (e : Ending) (w' : World) : Prop := ∃ g0 b0 c0 d0 k0 l0 t0 v0 y0 n0 m0 r0 u0 x0 p s, e = .returned (.agg #[.slice (some ⟨g0, 0, none⟩) 3 c0, .slice (some ⟨b0, 0, none⟩) 3 d0, .slice n0 0 k0, .slice m0 0 l0, .slice r0 0 t0, .int .i64 1, .int .i64 0, .int .i64 0, .int .i64 0, .int .i64 0, .slice u0 0 v0, .slice x0 0 y0]) ∧ Box w' g0 (three p s) ∧ Box w' b0 (bs3 true true true) ∧ g0 ≠ b0 ∧ w.heap.size ≤ g0 ∧ w.heap.size ≤ b0 ∧ Below w.heap.size w w'

set_option maxRecDepth 100000 in
set_option maxHeartbeats 2000000 in
theorem l14New_any (w : World) : Calls Try.prog 14 #[] w (NwW w) := by
  have X : Hid (Box (w.alloc (.cells #[.slice none 0 0, .slice none 0 0, .slice none 0 0, .slice none 0 0, .slice none 0 0, .int .i64 0, .int .i64 0, .int .i64 0, .int .i64 0, .int .i64 0, .slice none 0 0, .slice none 0 0] 35)) w.heap.size [.slice none 0 0, .slice none 0 0, .slice none 0 0, .slice none 0 0, .slice none 0 0, .int .i64 0, .int .i64 0, .int .i64 0, .int .i64 0, .int .i64 0, .slice none 0 0, .slice none 0 0] ∧ Below w.heap.size w (w.alloc (.cells #[.slice none 0 0, .slice none 0 0, .slice none 0 0, .slice none 0 0, .slice none 0 0, .int .i64 0, .int .i64 0, .int .i64 0, .int .i64 0, .int .i64 0, .slice none 0 0, .slice none 0 0] 35))) := ⟨box_mk, bel_alloc _ _⟩
  go_enter Try.func14, Try.ntmps14
  go_upto_region 1 with fail
  generalize (w.alloc (.cells #[.slice none 0 0, .slice none 0 0, .slice none 0 0, .slice none 0 0, .slice none 0 0, .int .i64 0, .int .i64 0, .int .i64 0, .int .i64 0, .int .i64 0, .slice none 0 0, .slice none 0 0] 35)) = W0 at *
  go_wp2_with fail
  refine Calls.mono (l09New_any _) ?_
  rintro e W1 ⟨g0, b0, c0, d0, k0, l0, n0, m0, p, s, rfl, hg, hb1, hne, l1, l2, hb⟩
  have HG : Hid (Box W1 g0 (three p s) ∧ Box W1 b0 (bs3 true true true) ∧ g0 ≠ b0 ∧ w.heap.size < g0 ∧ w.heap.size < b0) := ⟨hg, hb1, hne, by have := X.out.1.lt; omega, by have := X.out.1.lt; omega⟩
  replace X : Hid (Box W1 w.heap.size [.slice none 0 0, .slice none 0 0, .slice none 0 0, .slice none 0 0, .slice none 0 0, .int .i64 0, .int .i64 0, .int .i64 0, .int .i64 0, .int .i64 0, .slice none 0 0, .slice none 0 0] ∧ Below w.heap.size w W1) := ⟨X.out.1.next hb, X.out.2.trans (hb.mono X.out.2.size)⟩
  clear hb hg hb1 hne l1 l2
  go_wp2_with fail
  refine Calls.mono (specGroup_new _) ?_
  rintro e W2 ⟨u0, rfl, hb2⟩
  have hb : Below W1.heap.size W1 W2 := (bel_alloc _ _).trans (hb2.mono (by simp))
  clear hb2
  replace X : Hid (Box W2 w.heap.size [.slice none 0 0, .slice none 0 0, .slice none 0 0, .slice none 0 0, .slice none 0 0, .int .i64 0, .int .i64 0, .int .i64 0, .int .i64 0, .int .i64 0, .slice none 0 0, .slice none 0 0] ∧ Below w.heap.size w W2) := ⟨X.out.1.next hb, X.out.2.trans (hb.mono X.out.2.size)⟩
  replace HG : Hid (Box W2 g0 (three p s) ∧ Box W2 b0 (bs3 true true true) ∧ g0 ≠ b0 ∧ w.heap.size < g0 ∧ w.heap.size < b0) := ⟨HG.out.1.next hb, HG.out.2.1.next hb, HG.out.2.2⟩
  clear hb
  have c_0 : ∀ o1, (W2.alloc o1).cell? ⟨w.heap.size, 0, none⟩ = some (.slice none 0 0) := fun _ => (X.out.1.alloc.is 0 (by simp)).1
  have f_0 : ∀ o1, (W2.alloc o1).frozen? ⟨w.heap.size, 0, none⟩ = false := fun _ => (X.out.1.alloc.is 0 (by simp)).2
  have c_1 : ∀ o1, (W2.alloc o1).cell? ⟨w.heap.size, 1, none⟩ = some (.slice none 0 0) := fun _ => (X.out.1.alloc.is 1 (by simp)).1
  have f_1 : ∀ o1, (W2.alloc o1).frozen? ⟨w.heap.size, 1, none⟩ = false := fun _ => (X.out.1.alloc.is 1 (by simp)).2
  have c_2 : ∀ o1, (W2.alloc o1).cell? ⟨w.heap.size, 2, none⟩ = some (.slice none 0 0) := fun _ => (X.out.1.alloc.is 2 (by simp)).1
  have f_2 : ∀ o1, (W2.alloc o1).frozen? ⟨w.heap.size, 2, none⟩ = false := fun _ => (X.out.1.alloc.is 2 (by simp)).2
  have c_3 : ∀ o1, (W2.alloc o1).cell? ⟨w.heap.size, 3, none⟩ = some (.slice none 0 0) := fun _ => (X.out.1.alloc.is 3 (by simp)).1
  have f_3 : ∀ o1, (W2.alloc o1).frozen? ⟨w.heap.size, 3, none⟩ = false := fun _ => (X.out.1.alloc.is 3 (by simp)).2
  have c_4 : ∀ o1, (W2.alloc o1).cell? ⟨w.heap.size, 4, none⟩ = some (.slice none 0 0) := fun _ => (X.out.1.alloc.is 4 (by simp)).1
  have f_4 : ∀ o1, (W2.alloc o1).frozen? ⟨w.heap.size, 4, none⟩ = false := fun _ => (X.out.1.alloc.is 4 (by simp)).2
  have c_5 : ∀ o1, (W2.alloc o1).cell? ⟨w.heap.size, 5, none⟩ = some (.int .i64 0) := fun _ => (X.out.1.alloc.is 5 (by simp)).1
  have f_5 : ∀ o1, (W2.alloc o1).frozen? ⟨w.heap.size, 5, none⟩ = false := fun _ => (X.out.1.alloc.is 5 (by simp)).2
  have c_6 : ∀ o1, (W2.alloc o1).cell? ⟨w.heap.size, 6, none⟩ = some (.int .i64 0) := fun _ => (X.out.1.alloc.is 6 (by simp)).1
  have f_6 : ∀ o1, (W2.alloc o1).frozen? ⟨w.heap.size, 6, none⟩ = false := fun _ => (X.out.1.alloc.is 6 (by simp)).2
  have c_7 : ∀ o1, (W2.alloc o1).cell? ⟨w.heap.size, 7, none⟩ = some (.int .i64 0) := fun _ => (X.out.1.alloc.is 7 (by simp)).1
  have f_7 : ∀ o1, (W2.alloc o1).frozen? ⟨w.heap.size, 7, none⟩ = false := fun _ => (X.out.1.alloc.is 7 (by simp)).2
  have c_8 : ∀ o1, (W2.alloc o1).cell? ⟨w.heap.size, 8, none⟩ = some (.int .i64 0) := fun _ => (X.out.1.alloc.is 8 (by simp)).1
  have f_8 : ∀ o1, (W2.alloc o1).frozen? ⟨w.heap.size, 8, none⟩ = false := fun _ => (X.out.1.alloc.is 8 (by simp)).2
  have c_9 : ∀ o1, (W2.alloc o1).cell? ⟨w.heap.size, 9, none⟩ = some (.int .i64 0) := fun _ => (X.out.1.alloc.is 9 (by simp)).1
  have f_9 : ∀ o1, (W2.alloc o1).frozen? ⟨w.heap.size, 9, none⟩ = false := fun _ => (X.out.1.alloc.is 9 (by simp)).2
  have c_10 : ∀ o1, (W2.alloc o1).cell? ⟨w.heap.size, 10, none⟩ = some (.slice none 0 0) := fun _ => (X.out.1.alloc.is 10 (by simp)).1
  have f_10 : ∀ o1, (W2.alloc o1).frozen? ⟨w.heap.size, 10, none⟩ = false := fun _ => (X.out.1.alloc.is 10 (by simp)).2
  have c_11 : ∀ o1, (W2.alloc o1).cell? ⟨w.heap.size, 11, none⟩ = some (.slice none 0 0) := fun _ => (X.out.1.alloc.is 11 (by simp)).1
  have f_11 : ∀ o1, (W2.alloc o1).frozen? ⟨w.heap.size, 11, none⟩ = false := fun _ => (X.out.1.alloc.is 11 (by simp)).2
  go_wp2
  refine bodyPost_ret (v := .agg #[.slice (some ⟨g0, 0, none⟩) 3 c0, .slice (some ⟨b0, 0, none⟩) 3 d0, .slice n0 0 k0, .slice m0 0 l0, .slice (some ⟨W1.heap.size, 0, none⟩) 0 0, .int .i64 1, .int .i64 0, .int .i64 0, .int .i64 0, .int .i64 0, .slice u0 0 0, .slice (some ⟨W2.heap.size, 0, none⟩) 0 0]) (by simp [results, Try.results14, go_sem, *]) rfl ?_
  have h := HG.out
  refine ⟨g0, b0, c0, d0, k0, l0, 0, 0, 0, n0, m0, _, u0, _, p, s, rfl, h.1.alloc.o12 (by omega), h.2.1.alloc.o12 (by omega), h.2.2.1, by omega, by omega, ?_⟩
  exact bel_set12 (X.out.2.trans ((bel_alloc _ _).mono X.out.2.size)) (Nat.le_refl _)

set_option maxRecDepth 100000 in
set_option maxHeartbeats 2000000 in
theorem implWorld_new (w : World) : Calls Try.prog 6 #[] w (NwW w) := by
  have X : Hid (Box (w.alloc (.cells #[.slice none 0 0, .slice none 0 0, .slice none 0 0, .slice none 0 0, .slice none 0 0, .int .i64 0, .int .i64 0, .int .i64 0, .int .i64 0, .int .i64 0, .slice none 0 0, .slice none 0 0] 35)) w.heap.size [.slice none 0 0, .slice none 0 0, .slice none 0 0, .slice none 0 0, .slice none 0 0, .int .i64 0, .int .i64 0, .int .i64 0, .int .i64 0, .int .i64 0, .slice none 0 0, .slice none 0 0] ∧ Below w.heap.size w (w.alloc (.cells #[.slice none 0 0, .slice none 0 0, .slice none 0 0, .slice none 0 0, .slice none 0 0, .int .i64 0, .int .i64 0, .int .i64 0, .int .i64 0, .int .i64 0, .slice none 0 0, .slice none 0 0] 35))) := ⟨box_mk, bel_alloc _ _⟩
  go_enter Try.func6, Try.ntmps6
  go_upto_region 1 with fail
  generalize (w.alloc (.cells #[.slice none 0 0, .slice none 0 0, .slice none 0 0, .slice none 0 0, .slice none 0 0, .int .i64 0, .int .i64 0, .int .i64 0, .int .i64 0, .int .i64 0, .slice none 0 0, .slice none 0 0] 35)) = W0 at *
  go_wp2_with fail
  refine Calls.mono (implNew_any _) ?_
  rintro e W1 ⟨g0, b0, c0, d0, k0, l0, n0, m0, p, s, rfl, hg, hb1, hne, l1, l2, hb⟩
  have HG : Hid (Box W1 g0 (three p s) ∧ Box W1 b0 (bs3 true true true) ∧ g0 ≠ b0 ∧ w.heap.size < g0 ∧ w.heap.size < b0) := ⟨hg, hb1, hne, by have := X.out.1.lt; omega, by have := X.out.1.lt; omega⟩
  replace X : Hid (Box W1 w.heap.size [.slice none 0 0, .slice none 0 0, .slice none 0 0, .slice none 0 0, .slice none 0 0, .int .i64 0, .int .i64 0, .int .i64 0, .int .i64 0, .int .i64 0, .slice none 0 0, .slice none 0 0] ∧ Below w.heap.size w W1) := ⟨X.out.1.next hb, X.out.2.trans (hb.mono X.out.2.size)⟩
  clear hb hg hb1 hne l1 l2
  go_wp2_with fail
  refine Calls.mono (implGroup_new _) ?_
  rintro e W2 ⟨rfl, hb⟩
  replace X : Hid (Box W2 w.heap.size [.slice none 0 0, .slice none 0 0, .slice none 0 0, .slice none 0 0, .slice none 0 0, .int .i64 0, .int .i64 0, .int .i64 0, .int .i64 0, .int .i64 0, .slice none 0 0, .slice none 0 0] ∧ Below w.heap.size w W2) := ⟨X.out.1.next hb, X.out.2.trans (hb.mono X.out.2.size)⟩
  replace HG : Hid (Box W2 g0 (three p s) ∧ Box W2 b0 (bs3 true true true) ∧ g0 ≠ b0 ∧ w.heap.size < g0 ∧ w.heap.size < b0) := ⟨HG.out.1.next hb, HG.out.2.1.next hb, HG.out.2.2⟩
  clear hb
  obtain ⟨c_0, c_1, c_2, c_3, c_4, c_5, c_6, c_7, c_8, c_9, c_10, c_11⟩ := X.out.1.c12
  obtain ⟨f_0, f_1, f_2, f_3, f_4, f_5, f_6, f_7, f_8, f_9, f_10, f_11⟩ := X.out.1.f12
  go_wp2
  refine bodyPost_ret (v := .agg #[.slice (some ⟨g0, 0, none⟩) 3 c0, .slice (some ⟨b0, 0, none⟩) 3 d0, .slice n0 0 k0, .slice m0 0 l0, .slice none 0 0, .int .i64 1, .int .i64 0, .int .i64 0, .int .i64 0, .int .i64 0, .slice none 0 0, .slice none 0 0]) (by simp [results, Try.results6, go_sem, *]) rfl ?_
  have h := HG.out
  refine ⟨g0, b0, c0, d0, k0, l0, 0, 0, 0, n0, m0, none, none, none, p, s, rfl, h.1.o12 (by omega), h.2.1.o12 (by omega), h.2.2.1, by omega, by omega, ?_⟩
  exact bel_set12 X.out.2 (Nat.le_refl _)

set_option maxRecDepth 100000 in
set_option maxHeartbeats 2000000 in
theorem specWorld_new (w : World) : Calls Try.prog 5 #[] w (NwW w) := by
  have X : Hid (Box (w.alloc (.cells #[.slice none 0 0, .slice none 0 0, .slice none 0 0, .slice none 0 0, .slice none 0 0, .int .i64 0, .int .i64 0, .int .i64 0, .int .i64 0, .int .i64 0, .slice none 0 0, .slice none 0 0] 35)) w.heap.size [.slice none 0 0, .slice none 0 0, .slice none 0 0, .slice none 0 0, .slice none 0 0, .int .i64 0, .int .i64 0, .int .i64 0, .int .i64 0, .int .i64 0, .slice none 0 0, .slice none 0 0] ∧ Below w.heap.size w (w.alloc (.cells #[.slice none 0 0, .slice none 0 0, .slice none 0 0, .slice none 0 0, .slice none 0 0, .int .i64 0, .int .i64 0, .int .i64 0, .int .i64 0, .int .i64 0, .slice none 0 0, .slice none 0 0] 35))) := ⟨box_mk, bel_alloc _ _⟩
  go_enter Try.func5, Try.ntmps5
  go_upto_region 1 with fail
  generalize (w.alloc (.cells #[.slice none 0 0, .slice none 0 0, .slice none 0 0, .slice none 0 0, .slice none 0 0, .int .i64 0, .int .i64 0, .int .i64 0, .int .i64 0, .int .i64 0, .slice none 0 0, .slice none 0 0] 35)) = W0 at *
  go_wp2_with fail
  refine Calls.mono (l14New_any _) ?_
  rintro e W1 ⟨g0, b0, c0, d0, k0, l0, t0, v0, y0, n0, m0, r0, u0, x0, p, s, rfl, hg, hb1, hne, l1, l2, hb⟩
  have HG : Hid (Box W1 g0 (three p s) ∧ Box W1 b0 (bs3 true true true) ∧ g0 ≠ b0 ∧ w.heap.size < g0 ∧ w.heap.size < b0) := ⟨hg, hb1, hne, by have := X.out.1.lt; omega, by have := X.out.1.lt; omega⟩
  replace X : Hid (Box W1 w.heap.size [.slice none 0 0, .slice none 0 0, .slice none 0 0, .slice none 0 0, .slice none 0 0, .int .i64 0, .int .i64 0, .int .i64 0, .int .i64 0, .int .i64 0, .slice none 0 0, .slice none 0 0] ∧ Below w.heap.size w W1) := ⟨X.out.1.next hb, X.out.2.trans (hb.mono X.out.2.size)⟩
  clear hb hg hb1 hne l1 l2
  obtain ⟨c_0, c_1, c_2, c_3, c_4, c_5, c_6, c_7, c_8, c_9, c_10, c_11⟩ := X.out.1.c12
  obtain ⟨f_0, f_1, f_2, f_3, f_4, f_5, f_6, f_7, f_8, f_9, f_10, f_11⟩ := X.out.1.f12
  go_wp2
  refine bodyPost_ret (v := .agg #[.slice (some ⟨g0, 0, none⟩) 3 c0, .slice (some ⟨b0, 0, none⟩) 3 d0, .slice n0 0 k0, .slice m0 0 l0, .slice r0 0 t0, .int .i64 1, .int .i64 0, .int .i64 0, .int .i64 0, .int .i64 0, .slice u0 0 v0, .slice x0 0 y0]) (by simp [results, Try.results5, go_sem, *]) rfl ?_
  have h := HG.out
  refine ⟨g0, b0, c0, d0, k0, l0, t0, v0, y0, n0, m0, r0, u0, x0, p, s, rfl, h.1.o12 (by omega), h.2.1.o12 (by omega), h.2.2.1, by omega, by omega, ?_⟩
  exact bel_set12 X.out.2 (Nat.le_refl _)
end Go.Proofs.Ytagmpoakakbeaaa

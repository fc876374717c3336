/- Clusters of new nodes compared, marked, held. -/
import Derived.Test.YtagmpoakakbeaaaRows
import Derived.WalkKit
import Derived.WalkSpells
import Derived.WalkLawsBesides
import Derived.Deep.QuietTactic
import Derived.BigQuiet
import Derived.Deep.RegionHeld3
import Derived.Test.YtagmpoakakbeaaaKm
import Derived.LoopN
import Derived.Deep.Cut
namespace Go.Proofs.Ytagmpoakakbeaaa
open Go.RowKit
set_option linter.unusedSimpArgs false
set_option linter.unusedVariables false

set_option maxHeartbeats 2000000 in
theorem eqCluster_yes (g b g2 b2 c d c2 d2 k0 k1 l0 l1 : Nat) (n0 n1 m0 m1 : Option Addr) (p q : Nat → Option Addr) (s t : Nat → Nat) (x y z : Bool) (w : World) (h1 : Box w g (three p s)) (h2 : Box w b (bs3 x y z)) (h3 : Box w g2 (three q t)) (h4 : Box w b2 (bs3 x y z)) :
    Calls Try.prog 17 #[.agg #[.slice (some ⟨g, 0, none⟩) 3 c, .slice (some ⟨b, 0, none⟩) 3 d, .slice n0 0 k0, .slice n1 0 k1], .agg #[.slice (some ⟨g2, 0, none⟩) 3 c2, .slice (some ⟨b2, 0, none⟩) 3 d2, .slice m0 0 l0, .slice m1 0 l1]] w fun e w' => e = .returned (.bool true) ∧ Below w.heap.size w w' := by
  have X : Hid (Box ((w.alloc (.cells #[.slice (some ⟨g, 0, none⟩) 3 c, .slice (some ⟨b, 0, none⟩) 3 d, .slice n0 0 k0, .slice n1 0 k1] 26)).alloc (.cells #[.slice (some ⟨g2, 0, none⟩) 3 c2, .slice (some ⟨b2, 0, none⟩) 3 d2, .slice m0 0 l0, .slice m1 0 l1] 26)) w.heap.size [.slice (some ⟨g, 0, none⟩) 3 c, .slice (some ⟨b, 0, none⟩) 3 d, .slice n0 0 k0, .slice n1 0 k1] ∧ Box ((w.alloc (.cells #[.slice (some ⟨g, 0, none⟩) 3 c, .slice (some ⟨b, 0, none⟩) 3 d, .slice n0 0 k0, .slice n1 0 k1] 26)).alloc (.cells #[.slice (some ⟨g2, 0, none⟩) 3 c2, .slice (some ⟨b2, 0, none⟩) 3 d2, .slice m0 0 l0, .slice m1 0 l1] 26)) (w.heap.size + 1) [.slice (some ⟨g2, 0, none⟩) 3 c2, .slice (some ⟨b2, 0, none⟩) 3 d2, .slice m0 0 l0, .slice m1 0 l1] ∧ Below w.heap.size w ((w.alloc (.cells #[.slice (some ⟨g, 0, none⟩) 3 c, .slice (some ⟨b, 0, none⟩) 3 d, .slice n0 0 k0, .slice n1 0 k1] 26)).alloc (.cells #[.slice (some ⟨g2, 0, none⟩) 3 c2, .slice (some ⟨b2, 0, none⟩) 3 d2, .slice m0 0 l0, .slice m1 0 l1] 26))) := by
    have h1 : Box (w.alloc (.cells #[.slice (some ⟨g, 0, none⟩) 3 c, .slice (some ⟨b, 0, none⟩) 3 d, .slice n0 0 k0, .slice n1 0 k1] 26)) w.heap.size [.slice (some ⟨g, 0, none⟩) 3 c, .slice (some ⟨b, 0, none⟩) 3 d, .slice n0 0 k0, .slice n1 0 k1] := box_mk
    have h2 : Box ((w.alloc (.cells #[.slice (some ⟨g, 0, none⟩) 3 c, .slice (some ⟨b, 0, none⟩) 3 d, .slice n0 0 k0, .slice n1 0 k1] 26)).alloc (.cells #[.slice (some ⟨g2, 0, none⟩) 3 c2, .slice (some ⟨b2, 0, none⟩) 3 d2, .slice m0 0 l0, .slice m1 0 l1] 26)) (w.alloc (.cells #[.slice (some ⟨g, 0, none⟩) 3 c, .slice (some ⟨b, 0, none⟩) 3 d, .slice n0 0 k0, .slice n1 0 k1] 26)).heap.size [.slice (some ⟨g2, 0, none⟩) 3 c2, .slice (some ⟨b2, 0, none⟩) 3 d2, .slice m0 0 l0, .slice m1 0 l1] := box_mk
    rw [World.alloc_size] at h2
    exact ⟨h1.alloc, h2, (bel_alloc _ _).trans ((bel_alloc _ _).mono (by simp))⟩
  have H1 : Hid (Box w g (three p s) ∧ Box w g2 (three q t)) := ⟨h1, h3⟩
  have H2 : Hid (Box w b (bs3 x y z) ∧ Box w b2 (bs3 x y z)) := ⟨h2, h4⟩
  clear h1 h2 h3 h4
  go_enter Try.func17, Try.ntmps17
  go_upto_region 1 with fail
  generalize ((w.alloc (.cells #[.slice (some ⟨g, 0, none⟩) 3 c, .slice (some ⟨b, 0, none⟩) 3 d, .slice n0 0 k0, .slice n1 0 k1] 26)).alloc (.cells #[.slice (some ⟨g2, 0, none⟩) 3 c2, .slice (some ⟨b2, 0, none⟩) 3 d2, .slice m0 0 l0, .slice m1 0 l1] 26)) = W0 at *
  obtain ⟨u0, u1, u2, u3⟩ := X.out.1.c4
  obtain ⟨v0, v1, v2, v3⟩ := X.out.2.1.c4
  go_wp2_with fail
  refine Calls.mono (eqNodeS_three _ _ _ _ _ _ _ _ _ (H1.out.1.next X.out.2.2) (H1.out.2.next X.out.2.2)) ?_
  rintro e W1 ⟨rfl, hb⟩
  replace X : Hid (Box W1 w.heap.size [.slice (some ⟨g, 0, none⟩) 3 c, .slice (some ⟨b, 0, none⟩) 3 d, .slice n0 0 k0, .slice n1 0 k1] ∧ Box W1 (w.heap.size + 1) [.slice (some ⟨g2, 0, none⟩) 3 c2, .slice (some ⟨b2, 0, none⟩) 3 d2, .slice m0 0 l0, .slice m1 0 l1] ∧ Below w.heap.size w W1) := ⟨X.out.1.next hb, X.out.2.1.next hb, X.out.2.2.trans (hb.mono X.out.2.2.size)⟩
  clear hb u0 u1 u2 u3 v0 v1 v2 v3
  obtain ⟨u0, u1, u2, u3⟩ := X.out.1.c4
  obtain ⟨v0, v1, v2, v3⟩ := X.out.2.1.c4
  go_wp2_with fail
  refine Calls.mono (eqBoolS_three _ _ _ _ _ _ _ _ (H2.out.1.next X.out.2.2) (H2.out.2.next X.out.2.2)) ?_
  rintro e W2 ⟨rfl, hb⟩
  replace X : Hid (Box W2 w.heap.size [.slice (some ⟨g, 0, none⟩) 3 c, .slice (some ⟨b, 0, none⟩) 3 d, .slice n0 0 k0, .slice n1 0 k1] ∧ Box W2 (w.heap.size + 1) [.slice (some ⟨g2, 0, none⟩) 3 c2, .slice (some ⟨b2, 0, none⟩) 3 d2, .slice m0 0 l0, .slice m1 0 l1] ∧ Below w.heap.size w W2) := ⟨X.out.1.next hb, X.out.2.1.next hb, X.out.2.2.trans (hb.mono X.out.2.2.size)⟩
  clear hb u0 u1 u2 u3 v0 v1 v2 v3
  obtain ⟨u0, u1, u2, u3⟩ := X.out.1.c4
  obtain ⟨v0, v1, v2, v3⟩ := X.out.2.1.c4
  go_wp2_with fail
  refine Calls.mono (eqMsgS_nil _ _ _ _ _) ?_
  rintro e W3 ⟨rfl, hb⟩
  replace X : Hid (Box W3 w.heap.size [.slice (some ⟨g, 0, none⟩) 3 c, .slice (some ⟨b, 0, none⟩) 3 d, .slice n0 0 k0, .slice n1 0 k1] ∧ Box W3 (w.heap.size + 1) [.slice (some ⟨g2, 0, none⟩) 3 c2, .slice (some ⟨b2, 0, none⟩) 3 d2, .slice m0 0 l0, .slice m1 0 l1] ∧ Below w.heap.size w W3) := ⟨X.out.1.next hb, X.out.2.1.next hb, X.out.2.2.trans (hb.mono X.out.2.2.size)⟩
  clear hb u0 u1 u2 u3 v0 v1 v2 v3
  obtain ⟨u0, u1, u2, u3⟩ := X.out.1.c4
  obtain ⟨v0, v1, v2, v3⟩ := X.out.2.1.c4
  go_wp2_with fail
  refine Calls.mono (eqMsgS_nil _ _ _ _ _) ?_
  rintro e W4 ⟨rfl, hb⟩
  replace X : Hid (Box W4 w.heap.size [.slice (some ⟨g, 0, none⟩) 3 c, .slice (some ⟨b, 0, none⟩) 3 d, .slice n0 0 k0, .slice n1 0 k1] ∧ Box W4 (w.heap.size + 1) [.slice (some ⟨g2, 0, none⟩) 3 c2, .slice (some ⟨b2, 0, none⟩) 3 d2, .slice m0 0 l0, .slice m1 0 l1] ∧ Below w.heap.size w W4) := ⟨X.out.1.next hb, X.out.2.1.next hb, X.out.2.2.trans (hb.mono X.out.2.2.size)⟩
  clear hb u0 u1 u2 u3 v0 v1 v2 v3
  obtain ⟨u0, u1, u2, u3⟩ := X.out.1.c4
  obtain ⟨v0, v1, v2, v3⟩ := X.out.2.1.c4
  go_wp2
  go_ret
  exact ⟨rfl, X.out.2.2⟩

set_option maxHeartbeats 2000000 in
theorem markCluster_new (g b c d k0 k1 : Nat) (n0 n1 : Option Addr) (p : Nat → Option Addr) (s : Nat → Nat) (x y z : Bool) (w : World) (h1 : Box w g (three p s)) (h2 : Box w b (bs3 x y z)) (hne : g ≠ b) :
    Calls Try.prog 21 #[.agg #[.slice (some ⟨g, 0, none⟩) 3 c, .slice (some ⟨b, 0, none⟩) 3 d, .slice n0 0 k0, .slice n1 0 k1], .int .i64 1] w fun e w' => e = .returned (.int .i64 13) ∧ Box w' g (three' p s) ∧ Box w' b (bs3 false false true) ∧ Kp (fun x => x = g ∨ x = b) w w' := by
  have X : Hid (Box (w.alloc (.cells #[.slice (some ⟨g, 0, none⟩) 3 c, .slice (some ⟨b, 0, none⟩) 3 d, .slice n0 0 k0, .slice n1 0 k1] 26)) w.heap.size [.slice (some ⟨g, 0, none⟩) 3 c, .slice (some ⟨b, 0, none⟩) 3 d, .slice n0 0 k0, .slice n1 0 k1] ∧ Box (w.alloc (.cells #[.slice (some ⟨g, 0, none⟩) 3 c, .slice (some ⟨b, 0, none⟩) 3 d, .slice n0 0 k0, .slice n1 0 k1] 26)) g (three p s) ∧ Box (w.alloc (.cells #[.slice (some ⟨g, 0, none⟩) 3 c, .slice (some ⟨b, 0, none⟩) 3 d, .slice n0 0 k0, .slice n1 0 k1] 26)) b (bs3 x y z) ∧ Kp (fun x => x = g ∨ x = b) w (w.alloc (.cells #[.slice (some ⟨g, 0, none⟩) 3 c, .slice (some ⟨b, 0, none⟩) 3 d, .slice n0 0 k0, .slice n1 0 k1] 26))) := ⟨box_mk, h1.alloc, h2.alloc, Kp.of_below (bel_alloc _ _)⟩
  have HG : Hid (g < w.heap.size ∧ b < w.heap.size ∧ g ≠ b) := ⟨h1.lt, h2.lt, hne⟩
  clear h1 h2 hne
  go_enter Try.func21, Try.ntmps21
  go_upto_region 1 with fail
  generalize (w.alloc (.cells #[.slice (some ⟨g, 0, none⟩) 3 c, .slice (some ⟨b, 0, none⟩) 3 d, .slice n0 0 k0, .slice n1 0 k1] 26)) = W0 at *
  obtain ⟨u0, u1, u2, u3⟩ := X.out.1.c4
  go_wp2_with fail
  refine Calls.mono (markNodeS_three _ _ _ _ _ X.out.2.1) ?_
  rintro e W1 ⟨rfl, hB, hK⟩
  replace X : Hid (Box W1 w.heap.size [.slice (some ⟨g, 0, none⟩) 3 c, .slice (some ⟨b, 0, none⟩) 3 d, .slice n0 0 k0, .slice n1 0 k1] ∧ Box W1 g (three' p s) ∧ Box W1 b (bs3 x y z) ∧ Kp (fun x => x = g ∨ x = b) w W1) := ⟨X.out.1.kp hK (by have := HG.out; omega), hB, X.out.2.2.1.kp hK (by have := HG.out; omega), X.out.2.2.2.trans hK (fun _ _ h => h) (fun _ _ h => .inl h)⟩
  clear hB hK u0 u1 u2 u3
  obtain ⟨u0, u1, u2, u3⟩ := X.out.1.c4
  go_wp2_with fail
  refine Calls.mono (markBoolS_three _ _ _ _ _ _ X.out.2.2.1) ?_
  rintro e W2 ⟨rfl, hB, hK⟩
  replace X : Hid (Box W2 w.heap.size [.slice (some ⟨g, 0, none⟩) 3 c, .slice (some ⟨b, 0, none⟩) 3 d, .slice n0 0 k0, .slice n1 0 k1] ∧ Box W2 g (three' p s) ∧ Box W2 b (bs3 false false true) ∧ Kp (fun x => x = g ∨ x = b) w W2) := ⟨X.out.1.kp hK (by have := HG.out; omega), X.out.2.1.kp hK (by have := HG.out; omega), hB, X.out.2.2.2.trans hK (fun _ _ h => h) (fun _ _ h => .inr h)⟩
  clear hB hK u0 u1 u2 u3
  obtain ⟨u0, u1, u2, u3⟩ := X.out.1.c4
  go_wp2_with fail
  refine Calls.mono (markMsgS_nil _ _ _ _) ?_
  rintro e W3 ⟨rfl, hb⟩
  replace X : Hid (Box W3 w.heap.size [.slice (some ⟨g, 0, none⟩) 3 c, .slice (some ⟨b, 0, none⟩) 3 d, .slice n0 0 k0, .slice n1 0 k1] ∧ Box W3 g (three' p s) ∧ Box W3 b (bs3 false false true) ∧ Kp (fun x => x = g ∨ x = b) w W3) := ⟨X.out.1.next hb, X.out.2.1.next hb, X.out.2.2.1.next hb, X.out.2.2.2.trans (Kp.of_below hb) (fun _ _ h => h) (fun _ _ h => h)⟩
  clear hb u0 u1 u2 u3
  obtain ⟨u0, u1, u2, u3⟩ := X.out.1.c4
  go_wp2_with fail
  refine Calls.mono (markMsgS_nil _ _ _ _) ?_
  rintro e W4 ⟨rfl, hb⟩
  replace X : Hid (Box W4 w.heap.size [.slice (some ⟨g, 0, none⟩) 3 c, .slice (some ⟨b, 0, none⟩) 3 d, .slice n0 0 k0, .slice n1 0 k1] ∧ Box W4 g (three' p s) ∧ Box W4 b (bs3 false false true) ∧ Kp (fun x => x = g ∨ x = b) w W4) := ⟨X.out.1.next hb, X.out.2.1.next hb, X.out.2.2.1.next hb, X.out.2.2.2.trans (Kp.of_below hb) (fun _ _ h => h) (fun _ _ h => h)⟩
  clear hb u0 u1 u2 u3
  obtain ⟨u0, u1, u2, u3⟩ := X.out.1.c4
  go_wp2
  go_ret
  exact ⟨rfl, X.out.2.1, X.out.2.2.1, X.out.2.2.2⟩

set_option maxHeartbeats 2000000 in
theorem heldCluster_new (g b c d k0 k1 : Nat) (n0 n1 : Option Addr) (p : Nat → Option Addr) (s : Nat → Nat) (w : World) (h1 : Box w g (three' p s)) (h2 : Box w b (bs3 false false true)) :
    Calls Try.prog 25 #[.agg #[.slice (some ⟨g, 0, none⟩) 3 c, .slice (some ⟨b, 0, none⟩) 3 d, .slice n0 0 k0, .slice n1 0 k1], .int .i64 1] w fun e w' => e = .returned (.int .i64 13) ∧ Below w.heap.size w w' := by
  have X : Hid (Box (w.alloc (.cells #[.slice (some ⟨g, 0, none⟩) 3 c, .slice (some ⟨b, 0, none⟩) 3 d, .slice n0 0 k0, .slice n1 0 k1] 26)) w.heap.size [.slice (some ⟨g, 0, none⟩) 3 c, .slice (some ⟨b, 0, none⟩) 3 d, .slice n0 0 k0, .slice n1 0 k1] ∧ Box (w.alloc (.cells #[.slice (some ⟨g, 0, none⟩) 3 c, .slice (some ⟨b, 0, none⟩) 3 d, .slice n0 0 k0, .slice n1 0 k1] 26)) g (three' p s) ∧ Box (w.alloc (.cells #[.slice (some ⟨g, 0, none⟩) 3 c, .slice (some ⟨b, 0, none⟩) 3 d, .slice n0 0 k0, .slice n1 0 k1] 26)) b (bs3 false false true) ∧ Below w.heap.size w (w.alloc (.cells #[.slice (some ⟨g, 0, none⟩) 3 c, .slice (some ⟨b, 0, none⟩) 3 d, .slice n0 0 k0, .slice n1 0 k1] 26))) := ⟨box_mk, h1.alloc, h2.alloc, bel_alloc _ _⟩
  clear h1 h2
  go_enter Try.func25, Try.ntmps25
  go_upto_region 1 with fail
  generalize (w.alloc (.cells #[.slice (some ⟨g, 0, none⟩) 3 c, .slice (some ⟨b, 0, none⟩) 3 d, .slice n0 0 k0, .slice n1 0 k1] 26)) = W0 at *
  obtain ⟨u0, u1, u2, u3⟩ := X.out.1.c4
  go_wp2_with fail
  refine Calls.mono (heldNodeS_three _ _ _ _ _ X.out.2.1) ?_
  rintro e W1 ⟨rfl, hb⟩
  replace X : Hid (Box W1 w.heap.size [.slice (some ⟨g, 0, none⟩) 3 c, .slice (some ⟨b, 0, none⟩) 3 d, .slice n0 0 k0, .slice n1 0 k1] ∧ Box W1 g (three' p s) ∧ Box W1 b (bs3 false false true) ∧ Below w.heap.size w W1) := ⟨X.out.1.next hb, X.out.2.1.next hb, X.out.2.2.1.next hb, X.out.2.2.2.trans (hb.mono X.out.2.2.2.size)⟩
  clear hb u0 u1 u2 u3
  obtain ⟨u0, u1, u2, u3⟩ := X.out.1.c4
  go_wp2_with fail
  refine Calls.mono (heldBoolS_three _ _ _ X.out.2.2.1) ?_
  rintro e W2 ⟨rfl, hb⟩
  replace X : Hid (Box W2 w.heap.size [.slice (some ⟨g, 0, none⟩) 3 c, .slice (some ⟨b, 0, none⟩) 3 d, .slice n0 0 k0, .slice n1 0 k1] ∧ Box W2 g (three' p s) ∧ Box W2 b (bs3 false false true) ∧ Below w.heap.size w W2) := ⟨X.out.1.next hb, X.out.2.1.next hb, X.out.2.2.1.next hb, X.out.2.2.2.trans (hb.mono X.out.2.2.2.size)⟩
  clear hb u0 u1 u2 u3
  obtain ⟨u0, u1, u2, u3⟩ := X.out.1.c4
  go_wp2_with fail
  refine Calls.mono (heldMsgS_nil _ _ _ _) ?_
  rintro e W3 ⟨rfl, hb⟩
  replace X : Hid (Box W3 w.heap.size [.slice (some ⟨g, 0, none⟩) 3 c, .slice (some ⟨b, 0, none⟩) 3 d, .slice n0 0 k0, .slice n1 0 k1] ∧ Box W3 g (three' p s) ∧ Box W3 b (bs3 false false true) ∧ Below w.heap.size w W3) := ⟨X.out.1.next hb, X.out.2.1.next hb, X.out.2.2.1.next hb, X.out.2.2.2.trans (hb.mono X.out.2.2.2.size)⟩
  clear hb u0 u1 u2 u3
  obtain ⟨u0, u1, u2, u3⟩ := X.out.1.c4
  go_wp2_with fail
  refine Calls.mono (heldMsgS_nil _ _ _ _) ?_
  rintro e W4 ⟨rfl, hb⟩
  replace X : Hid (Box W4 w.heap.size [.slice (some ⟨g, 0, none⟩) 3 c, .slice (some ⟨b, 0, none⟩) 3 d, .slice n0 0 k0, .slice n1 0 k1] ∧ Box W4 g (three' p s) ∧ Box W4 b (bs3 false false true) ∧ Below w.heap.size w W4) := ⟨X.out.1.next hb, X.out.2.1.next hb, X.out.2.2.1.next hb, X.out.2.2.2.trans (hb.mono X.out.2.2.2.size)⟩
  clear hb u0 u1 u2 u3
  obtain ⟨u0, u1, u2, u3⟩ := X.out.1.c4
  go_wp2
  go_ret
  exact ⟨rfl, X.out.2.2.2⟩
end Go.Proofs.Ytagmpoakakbeaaa

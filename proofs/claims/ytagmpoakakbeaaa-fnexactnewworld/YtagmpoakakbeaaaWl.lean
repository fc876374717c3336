/- The law of NewWorld: the program's new world is the specification's, and owns its memory. -/
import Derived.Test.YtagmpoakakbeaaaRows
import Derived.WalkKit
import Derived.WalkSpells
import Derived.WalkLawsBesides
import Derived.Deep.QuietTactic
import Derived.BigQuiet
import Derived.Deep.RegionHeld3
import Derived.Test.YtagmpoakakbeaaaWn
import Derived.LoopN
import Derived.Deep.Cut
namespace Go.Proofs.Ytagmpoakakbeaaa
open Go.RowKit
set_option linter.unusedSimpArgs false
set_option linter.unusedVariables false

set_option maxRecDepth 100000 in
set_option maxHeartbeats 4000000 in
theorem law_newWorld (w : World) : Calls Try.prog 3 #[] w fun e w' => e = .returned (.bool true) ∧ Below w.heap.size w w' := by
  go_enter Try.func3, Try.ntmps3
  go_wp2_with fail
  refine Calls.mono (specWorld_new _) ?_
  rintro e W1 ⟨g0, b0, c0, d0, k0, l0, t0, v0, y0, n0, m0, r0, u0, x0, p0, s0, rfl, hg, hb1, hne, ll1, ll2, hb⟩
  have X : Hid (Box W1 g0 (three p0 s0) ∧ Box W1 b0 (bs3 true true true) ∧ Below w.heap.size w W1) := ⟨hg, hb1, hb⟩
  clear hg hb1 hne ll1 ll2 hb
  go_upto_region 2 with fail
  refine wp_gen (fun W => Box W W1.heap.size [.slice (some ⟨g0, 0, none⟩) 3 c0, .slice (some ⟨b0, 0, none⟩) 3 d0, .slice n0 0 k0, .slice m0 0 l0, .slice r0 0 t0, .int .i64 1, .int .i64 0, .int .i64 0, .int .i64 0, .int .i64 0, .slice u0 0 v0, .slice x0 0 y0] ∧ Box W g0 (three p0 s0) ∧ Box W b0 (bs3 true true true) ∧ Below w.heap.size w W) ?_ (fun W2 hI => ?_)
  · have h1 := X.out.1.lt
    have h2 := X.out.2.1.lt
    first
      | exact ⟨box_mk, X.out.1.alloc, X.out.2.1.alloc, X.out.2.2.trans ((bel_alloc _ _).mono X.out.2.2.size)⟩
      | exact ⟨box_mk.s12, X.out.1.alloc.o12 (by omega), X.out.2.1.alloc.o12 (by omega), bel_set12 (X.out.2.2.trans ((bel_alloc _ _).mono X.out.2.2.size)) X.out.2.2.size⟩
  replace X : Hid (Box W2 W1.heap.size [.slice (some ⟨g0, 0, none⟩) 3 c0, .slice (some ⟨b0, 0, none⟩) 3 d0, .slice n0 0 k0, .slice m0 0 l0, .slice r0 0 t0, .int .i64 1, .int .i64 0, .int .i64 0, .int .i64 0, .int .i64 0, .slice u0 0 v0, .slice x0 0 y0] ∧ Box W2 g0 (three p0 s0) ∧ Box W2 b0 (bs3 true true true) ∧ Below w.heap.size w W2) := hI
  clear hI
  generalize W1.heap.size = q0 at *
  go_wp2_with fail
  refine Calls.mono (implWorld_new _) ?_
  rintro e W3 ⟨g1, b1, c1, d1, k1, l1, t1, v1, y1, n1, m1, r1, u1, x1, p1, s1, rfl, hg, hb1, hne, ll1, ll2, hb⟩
  have HN : Hid (g1 ≠ b1 ∧ q0 < W2.heap.size ∧ g0 < W2.heap.size ∧ b0 < W2.heap.size ∧ W2.heap.size ≤ g1 ∧ W2.heap.size ≤ b1 ∧ w.heap.size ≤ W2.heap.size) := ⟨hne, X.out.1.lt, X.out.2.1.lt, X.out.2.2.1.lt, ll1, ll2, X.out.2.2.2.size⟩
  have Y : Hid (Box W3 g1 (three p1 s1) ∧ Box W3 b1 (bs3 true true true)) := ⟨hg, hb1⟩
  replace X : Hid (Box W3 q0 [.slice (some ⟨g0, 0, none⟩) 3 c0, .slice (some ⟨b0, 0, none⟩) 3 d0, .slice n0 0 k0, .slice m0 0 l0, .slice r0 0 t0, .int .i64 1, .int .i64 0, .int .i64 0, .int .i64 0, .int .i64 0, .slice u0 0 v0, .slice x0 0 y0] ∧ Box W3 g0 (three p0 s0) ∧ Box W3 b0 (bs3 true true true) ∧ Below w.heap.size w W3) := ⟨X.out.1.next hb, X.out.2.1.next hb, X.out.2.2.1.next hb, X.out.2.2.2.trans (hb.mono X.out.2.2.2.size)⟩
  clear hg hb1 hne ll1 ll2 hb
  go_upto_region 3 with fail
  refine wp_gen (fun W => Box W q0 [.slice (some ⟨g0, 0, none⟩) 3 c0, .slice (some ⟨b0, 0, none⟩) 3 d0, .slice n0 0 k0, .slice m0 0 l0, .slice r0 0 t0, .int .i64 1, .int .i64 0, .int .i64 0, .int .i64 0, .int .i64 0, .slice u0 0 v0, .slice x0 0 y0] ∧ Box W g0 (three p0 s0) ∧ Box W b0 (bs3 true true true) ∧ Box W W3.heap.size [.slice (some ⟨g1, 0, none⟩) 3 c1, .slice (some ⟨b1, 0, none⟩) 3 d1, .slice n1 0 k1, .slice m1 0 l1, .slice r1 0 t1, .int .i64 1, .int .i64 0, .int .i64 0, .int .i64 0, .int .i64 0, .slice u1 0 v1, .slice x1 0 y1] ∧ Box W g1 (three p1 s1) ∧ Box W b1 (bs3 true true true) ∧ Below w.heap.size w W) ?_ (fun W4 hI => ?_)
  · have h1 := X.out.1.lt
    have h2 := X.out.2.1.lt
    have h3 := X.out.2.2.1.lt
    have h4 := Y.out.1.lt
    have h5 := Y.out.2.lt
    first
      | exact ⟨X.out.1.alloc, X.out.2.1.alloc, X.out.2.2.1.alloc, box_mk, Y.out.1.alloc, Y.out.2.alloc, X.out.2.2.2.trans ((bel_alloc _ _).mono X.out.2.2.2.size)⟩
      | exact ⟨X.out.1.alloc.o12 (by omega), X.out.2.1.alloc.o12 (by omega), X.out.2.2.1.alloc.o12 (by omega), box_mk.s12, Y.out.1.alloc.o12 (by omega), Y.out.2.alloc.o12 (by omega), bel_set12 (X.out.2.2.2.trans ((bel_alloc _ _).mono X.out.2.2.2.size)) X.out.2.2.2.size⟩
  have HM : Hid (W2.heap.size ≤ W3.heap.size ∧ g1 < W3.heap.size ∧ b1 < W3.heap.size) := ⟨by have := Y.out.1.lt; have := HN.out; omega, Y.out.1.lt, Y.out.2.lt⟩
  replace X : Hid (Box W4 q0 [.slice (some ⟨g0, 0, none⟩) 3 c0, .slice (some ⟨b0, 0, none⟩) 3 d0, .slice n0 0 k0, .slice m0 0 l0, .slice r0 0 t0, .int .i64 1, .int .i64 0, .int .i64 0, .int .i64 0, .int .i64 0, .slice u0 0 v0, .slice x0 0 y0] ∧ Box W4 g0 (three p0 s0) ∧ Box W4 b0 (bs3 true true true) ∧ Box W4 W3.heap.size [.slice (some ⟨g1, 0, none⟩) 3 c1, .slice (some ⟨b1, 0, none⟩) 3 d1, .slice n1 0 k1, .slice m1 0 l1, .slice r1 0 t1, .int .i64 1, .int .i64 0, .int .i64 0, .int .i64 0, .int .i64 0, .slice u1 0 v1, .slice x1 0 y1] ∧ Box W4 g1 (three p1 s1) ∧ Box W4 b1 (bs3 true true true) ∧ Below w.heap.size w W4) := hI
  clear hI Y
  generalize W3.heap.size = q1 at *
  generalize W2.heap.size = z2 at *
  obtain ⟨a_0, a_1, a_2, a_3, a_4, a_5, a_6, a_7, a_8, a_9, a_10, a_11⟩ := X.out.1.c12
  obtain ⟨b_0, b_1, b_2, b_3, b_4, b_5, b_6, b_7, b_8, b_9, b_10, b_11⟩ := X.out.2.2.2.1.c12
  go_wp2_with fail
  refine Calls.mono (eqWorld_new _ _ _ _ _ _ _ _ _ _ _ _ _ _ _ _ _ _ _ _ _ _ _ _ _ _ _ _ _ _ _ _ _ X.out.2.2.2.2.1 X.out.2.2.2.2.2.1 X.out.2.1 X.out.2.2.1) ?_
  rintro e W5 ⟨rfl, hb⟩
  replace X : Hid (Box W5 q0 [.slice (some ⟨g0, 0, none⟩) 3 c0, .slice (some ⟨b0, 0, none⟩) 3 d0, .slice n0 0 k0, .slice m0 0 l0, .slice r0 0 t0, .int .i64 1, .int .i64 0, .int .i64 0, .int .i64 0, .int .i64 0, .slice u0 0 v0, .slice x0 0 y0] ∧ Box W5 g0 (three p0 s0) ∧ Box W5 b0 (bs3 true true true) ∧ Box W5 q1 [.slice (some ⟨g1, 0, none⟩) 3 c1, .slice (some ⟨b1, 0, none⟩) 3 d1, .slice n1 0 k1, .slice m1 0 l1, .slice r1 0 t1, .int .i64 1, .int .i64 0, .int .i64 0, .int .i64 0, .int .i64 0, .slice u1 0 v1, .slice x1 0 y1] ∧ Box W5 g1 (three p1 s1) ∧ Box W5 b1 (bs3 true true true) ∧ Below w.heap.size w W5) := ⟨X.out.1.next hb, X.out.2.1.next hb, X.out.2.2.1.next hb, X.out.2.2.2.1.next hb, X.out.2.2.2.2.1.next hb, X.out.2.2.2.2.2.1.next hb, X.out.2.2.2.2.2.2.trans (hb.mono X.out.2.2.2.2.2.2.size)⟩
  clear hb
  clear a_0 a_1 a_2 a_3 a_4 a_5 a_6 a_7 a_8 a_9 a_10 a_11 b_0 b_1 b_2 b_3 b_4 b_5 b_6 b_7 b_8 b_9 b_10 b_11
  obtain ⟨a_0, a_1, a_2, a_3, a_4, a_5, a_6, a_7, a_8, a_9, a_10, a_11⟩ := X.out.1.c12
  obtain ⟨b_0, b_1, b_2, b_3, b_4, b_5, b_6, b_7, b_8, b_9, b_10, b_11⟩ := X.out.2.2.2.1.c12
  go_wp2_with fail
  refine Calls.mono (markWorld_new _ _ _ _ _ _ _ _ _ _ _ _ _ _ _ _ _ X.out.2.2.2.2.1 X.out.2.2.2.2.2.1 HN.out.1) ?_
  rintro e W6 ⟨rfl, hG, hB, hK⟩
  have hn := HN.out
  have hm := HM.out
  replace X : Hid (Box W6 q0 [.slice (some ⟨g0, 0, none⟩) 3 c0, .slice (some ⟨b0, 0, none⟩) 3 d0, .slice n0 0 k0, .slice m0 0 l0, .slice r0 0 t0, .int .i64 1, .int .i64 0, .int .i64 0, .int .i64 0, .int .i64 0, .slice u0 0 v0, .slice x0 0 y0] ∧ Box W6 g0 (three p0 s0) ∧ Box W6 b0 (bs3 true true true) ∧ Box W6 q1 [.slice (some ⟨g1, 0, none⟩) 3 c1, .slice (some ⟨b1, 0, none⟩) 3 d1, .slice n1 0 k1, .slice m1 0 l1, .slice r1 0 t1, .int .i64 1, .int .i64 0, .int .i64 0, .int .i64 0, .int .i64 0, .slice u1 0 v1, .slice x1 0 y1] ∧ Box W6 g1 (three' p1 s1) ∧ Box W6 b1 (bs3 false false true) ∧ Below w.heap.size w W6) := ⟨X.out.1.kp hK (by omega), X.out.2.1.kp hK (by omega), X.out.2.2.1.kp hK (by omega), X.out.2.2.2.1.kp hK (by omega), hG, hB, X.out.2.2.2.2.2.2.trans (hK.below X.out.2.2.2.2.2.2.size (fun x hx => by omega))⟩
  clear hG hB hK hn hm
  clear a_0 a_1 a_2 a_3 a_4 a_5 a_6 a_7 a_8 a_9 a_10 a_11 b_0 b_1 b_2 b_3 b_4 b_5 b_6 b_7 b_8 b_9 b_10 b_11
  obtain ⟨a_0, a_1, a_2, a_3, a_4, a_5, a_6, a_7, a_8, a_9, a_10, a_11⟩ := X.out.1.c12
  obtain ⟨b_0, b_1, b_2, b_3, b_4, b_5, b_6, b_7, b_8, b_9, b_10, b_11⟩ := X.out.2.2.2.1.c12
  go_wp2_with fail
  refine Calls.mono (heldWorld_new _ _ _ _ _ _ _ _ _ _ _ _ _ _ _ _ _ X.out.2.2.2.2.1 X.out.2.2.2.2.2.1) ?_
  rintro e W7 ⟨rfl, hb⟩
  replace X : Hid (Box W7 q0 [.slice (some ⟨g0, 0, none⟩) 3 c0, .slice (some ⟨b0, 0, none⟩) 3 d0, .slice n0 0 k0, .slice m0 0 l0, .slice r0 0 t0, .int .i64 1, .int .i64 0, .int .i64 0, .int .i64 0, .int .i64 0, .slice u0 0 v0, .slice x0 0 y0] ∧ Box W7 g0 (three p0 s0) ∧ Box W7 b0 (bs3 true true true) ∧ Box W7 q1 [.slice (some ⟨g1, 0, none⟩) 3 c1, .slice (some ⟨b1, 0, none⟩) 3 d1, .slice n1 0 k1, .slice m1 0 l1, .slice r1 0 t1, .int .i64 1, .int .i64 0, .int .i64 0, .int .i64 0, .int .i64 0, .slice u1 0 v1, .slice x1 0 y1] ∧ Box W7 g1 (three' p1 s1) ∧ Box W7 b1 (bs3 false false true) ∧ Below w.heap.size w W7) := ⟨X.out.1.next hb, X.out.2.1.next hb, X.out.2.2.1.next hb, X.out.2.2.2.1.next hb, X.out.2.2.2.2.1.next hb, X.out.2.2.2.2.2.1.next hb, X.out.2.2.2.2.2.2.trans (hb.mono X.out.2.2.2.2.2.2.size)⟩
  clear hb
  clear a_0 a_1 a_2 a_3 a_4 a_5 a_6 a_7 a_8 a_9 a_10 a_11 b_0 b_1 b_2 b_3 b_4 b_5 b_6 b_7 b_8 b_9 b_10 b_11
  go_wp2_with fail
  refine Calls.mono (implWorld_new _) ?_
  rintro e W8 ⟨g2, b2, c2, d2, k2, l2, t2, v2, y2, n2, m2, r2, u2, x2, p2, s2, rfl, hg, hb1, hne, ll1, ll2, hb⟩
  have HN2 : Hid (q0 < W7.heap.size ∧ g0 < W7.heap.size ∧ b0 < W7.heap.size ∧ q1 < W7.heap.size ∧ g1 < W7.heap.size ∧ b1 < W7.heap.size ∧ W7.heap.size ≤ W8.heap.size) := ⟨X.out.1.lt, X.out.2.1.lt, X.out.2.2.1.lt, X.out.2.2.2.1.lt, X.out.2.2.2.2.1.lt, X.out.2.2.2.2.2.1.lt, hb.size⟩
  have Y : Hid (Box W8 g2 (three p2 s2) ∧ Box W8 b2 (bs3 true true true)) := ⟨hg, hb1⟩
  replace X : Hid (Box W8 q0 [.slice (some ⟨g0, 0, none⟩) 3 c0, .slice (some ⟨b0, 0, none⟩) 3 d0, .slice n0 0 k0, .slice m0 0 l0, .slice r0 0 t0, .int .i64 1, .int .i64 0, .int .i64 0, .int .i64 0, .int .i64 0, .slice u0 0 v0, .slice x0 0 y0] ∧ Box W8 g0 (three p0 s0) ∧ Box W8 b0 (bs3 true true true) ∧ Box W8 q1 [.slice (some ⟨g1, 0, none⟩) 3 c1, .slice (some ⟨b1, 0, none⟩) 3 d1, .slice n1 0 k1, .slice m1 0 l1, .slice r1 0 t1, .int .i64 1, .int .i64 0, .int .i64 0, .int .i64 0, .int .i64 0, .slice u1 0 v1, .slice x1 0 y1] ∧ Box W8 g1 (three' p1 s1) ∧ Box W8 b1 (bs3 false false true) ∧ Below w.heap.size w W8) := ⟨X.out.1.next hb, X.out.2.1.next hb, X.out.2.2.1.next hb, X.out.2.2.2.1.next hb, X.out.2.2.2.2.1.next hb, X.out.2.2.2.2.2.1.next hb, X.out.2.2.2.2.2.2.trans (hb.mono X.out.2.2.2.2.2.2.size)⟩
  clear hg hb1 hne ll1 ll2 hb
  go_upto_region 14 with fail
  refine wp_gen (fun W => (Box W q0 [.slice (some ⟨g0, 0, none⟩) 3 c0, .slice (some ⟨b0, 0, none⟩) 3 d0, .slice n0 0 k0, .slice m0 0 l0, .slice r0 0 t0, .int .i64 1, .int .i64 0, .int .i64 0, .int .i64 0, .int .i64 0, .slice u0 0 v0, .slice x0 0 y0] ∧ Box W g0 (three p0 s0) ∧ Box W b0 (bs3 true true true) ∧ Box W q1 [.slice (some ⟨g1, 0, none⟩) 3 c1, .slice (some ⟨b1, 0, none⟩) 3 d1, .slice n1 0 k1, .slice m1 0 l1, .slice r1 0 t1, .int .i64 1, .int .i64 0, .int .i64 0, .int .i64 0, .int .i64 0, .slice u1 0 v1, .slice x1 0 y1] ∧ Box W g1 (three' p1 s1) ∧ Box W b1 (bs3 false false true) ∧ Below w.heap.size w W) ∧ Box W W8.heap.size [.slice (some ⟨g2, 0, none⟩) 3 c2, .slice (some ⟨b2, 0, none⟩) 3 d2, .slice n2 0 k2, .slice m2 0 l2, .slice r2 0 t2, .int .i64 1, .int .i64 0, .int .i64 0, .int .i64 0, .int .i64 0, .slice u2 0 v2, .slice x2 0 y2] ∧ Box W g2 (three p2 s2) ∧ Box W b2 (bs3 true true true)) ?_ (fun W9 hI => ?_)
  · have h := HN2.out
    have h4 := Y.out.1.lt
    have h5 := Y.out.2.lt
    first
      | exact ⟨⟨X.out.1.alloc, X.out.2.1.alloc, X.out.2.2.1.alloc, X.out.2.2.2.1.alloc, X.out.2.2.2.2.1.alloc, X.out.2.2.2.2.2.1.alloc, X.out.2.2.2.2.2.2.trans ((bel_alloc _ _).mono X.out.2.2.2.2.2.2.size)⟩, box_mk, Y.out.1.alloc, Y.out.2.alloc⟩
      | exact ⟨⟨X.out.1.alloc.o12 (by omega), X.out.2.1.alloc.o12 (by omega), X.out.2.2.1.alloc.o12 (by omega), X.out.2.2.2.1.alloc.o12 (by omega), X.out.2.2.2.2.1.alloc.o12 (by omega), X.out.2.2.2.2.2.1.alloc.o12 (by omega), bel_set12 (X.out.2.2.2.2.2.2.trans ((bel_alloc _ _).mono X.out.2.2.2.2.2.2.size)) X.out.2.2.2.2.2.2.size⟩, box_mk.s12, Y.out.1.alloc.o12 (by omega), Y.out.2.alloc.o12 (by omega)⟩
  replace X : Hid (Box W9 q0 [.slice (some ⟨g0, 0, none⟩) 3 c0, .slice (some ⟨b0, 0, none⟩) 3 d0, .slice n0 0 k0, .slice m0 0 l0, .slice r0 0 t0, .int .i64 1, .int .i64 0, .int .i64 0, .int .i64 0, .int .i64 0, .slice u0 0 v0, .slice x0 0 y0] ∧ Box W9 g0 (three p0 s0) ∧ Box W9 b0 (bs3 true true true) ∧ Box W9 q1 [.slice (some ⟨g1, 0, none⟩) 3 c1, .slice (some ⟨b1, 0, none⟩) 3 d1, .slice n1 0 k1, .slice m1 0 l1, .slice r1 0 t1, .int .i64 1, .int .i64 0, .int .i64 0, .int .i64 0, .int .i64 0, .slice u1 0 v1, .slice x1 0 y1] ∧ Box W9 g1 (three' p1 s1) ∧ Box W9 b1 (bs3 false false true) ∧ Below w.heap.size w W9) := hI.1
  replace Y : Hid (Box W9 W8.heap.size [.slice (some ⟨g2, 0, none⟩) 3 c2, .slice (some ⟨b2, 0, none⟩) 3 d2, .slice n2 0 k2, .slice m2 0 l2, .slice r2 0 t2, .int .i64 1, .int .i64 0, .int .i64 0, .int .i64 0, .int .i64 0, .slice u2 0 v2, .slice x2 0 y2] ∧ Box W9 g2 (three p2 s2) ∧ Box W9 b2 (bs3 true true true)) := hI.2
  clear hI HN2
  generalize W8.heap.size = q2 at *
  obtain ⟨z_0, z_1, z_2, z_3, z_4, z_5, z_6, z_7, z_8, z_9, z_10, z_11⟩ := Y.out.1.c12
  obtain ⟨a_0, a_1, a_2, a_3, a_4, a_5, a_6, a_7, a_8, a_9, a_10, a_11⟩ := X.out.1.c12
  obtain ⟨b_0, b_1, b_2, b_3, b_4, b_5, b_6, b_7, b_8, b_9, b_10, b_11⟩ := X.out.2.2.2.1.c12
  go_wp2_with fail
  refine Calls.mono (eqWorld_new _ _ _ _ _ _ _ _ _ _ _ _ _ _ _ _ _ _ _ _ _ _ _ _ _ _ _ _ _ _ _ _ _ Y.out.2.1 Y.out.2.2 X.out.2.1 X.out.2.2.1) ?_
  rintro e W10 ⟨rfl, hb⟩
  replace X : Hid (Box W10 q0 [.slice (some ⟨g0, 0, none⟩) 3 c0, .slice (some ⟨b0, 0, none⟩) 3 d0, .slice n0 0 k0, .slice m0 0 l0, .slice r0 0 t0, .int .i64 1, .int .i64 0, .int .i64 0, .int .i64 0, .int .i64 0, .slice u0 0 v0, .slice x0 0 y0] ∧ Box W10 g0 (three p0 s0) ∧ Box W10 b0 (bs3 true true true) ∧ Box W10 q1 [.slice (some ⟨g1, 0, none⟩) 3 c1, .slice (some ⟨b1, 0, none⟩) 3 d1, .slice n1 0 k1, .slice m1 0 l1, .slice r1 0 t1, .int .i64 1, .int .i64 0, .int .i64 0, .int .i64 0, .int .i64 0, .slice u1 0 v1, .slice x1 0 y1] ∧ Box W10 g1 (three' p1 s1) ∧ Box W10 b1 (bs3 false false true) ∧ Below w.heap.size w W10) := ⟨X.out.1.next hb, X.out.2.1.next hb, X.out.2.2.1.next hb, X.out.2.2.2.1.next hb, X.out.2.2.2.2.1.next hb, X.out.2.2.2.2.2.1.next hb, X.out.2.2.2.2.2.2.trans (hb.mono X.out.2.2.2.2.2.2.size)⟩
  clear hb z_0 z_1 z_2 z_3 z_4 z_5 z_6 z_7 z_8 z_9 z_10 z_11 Y
  clear a_0 a_1 a_2 a_3 a_4 a_5 a_6 a_7 a_8 a_9 a_10 a_11 b_0 b_1 b_2 b_3 b_4 b_5 b_6 b_7 b_8 b_9 b_10 b_11
  obtain ⟨a_0, a_1, a_2, a_3, a_4, a_5, a_6, a_7, a_8, a_9, a_10, a_11⟩ := X.out.1.c12
  obtain ⟨b_0, b_1, b_2, b_3, b_4, b_5, b_6, b_7, b_8, b_9, b_10, b_11⟩ := X.out.2.2.2.1.c12
  go_wp2_with fail
  refine Calls.mono (heldWorld_new _ _ _ _ _ _ _ _ _ _ _ _ _ _ _ _ _ X.out.2.2.2.2.1 X.out.2.2.2.2.2.1) ?_
  rintro e W11 ⟨rfl, hb⟩
  go_wp2
  go_ret
  exact ⟨rfl, X.out.2.2.2.2.2.2.trans (hb.mono X.out.2.2.2.2.2.2.size)⟩
end Go.Proofs.Ytagmpoakakbeaaa

/- Marks in three new nodes and three bools, and what is held. -/
import Derived.Test.YtagmpoakakbeaaaRows
import Derived.WalkKit
import Derived.WalkSpells
import Derived.WalkLawsBesides
import Derived.Deep.QuietTactic
import Derived.BigQuiet
import Derived.Deep.RegionHeld3
import Derived.Test.YtagmpoakakbeaaaKr
import Derived.LoopN
namespace Go.Proofs.Ytagmpoakakbeaaa
open Go.RowKit
set_option linter.unusedSimpArgs false
set_option linter.unusedVariables false
abbrev three' (p : Nat → Option Addr) (s : Nat → Nat) : List Value := [.int .i64 1, .int .i64 2, .int .i64 3, .slice (p 0) 0 (s 0), .slice (p 1) 0 (s 1), .slice (p 2) 0 (s 2), .slice (p 3) 0 (s 3), .int .i64 4, .int .i64 5, .int .i64 6, .slice (p 4) 0 (s 4), .slice (p 5) 0 (s 5), .slice (p 6) 0 (s 6), .slice (p 7) 0 (s 7), .int .i64 7, .int .i64 8, .int .i64 9, .slice (p 8) 0 (s 8), .slice (p 9) 0 (s 9), .slice (p 10) 0 (s 10), .slice (p 11) 0 (s 11)]
theorem Kp.st {w W : World} {g i : Nat} {u : Value} (h : Kp (· = g) w W) : Kp (· = g) w (W.setCell ⟨g, i, none⟩ u) := h.trans Kp.set (fun _ _ h => h) (fun _ _ h => h)
theorem Kp.nx {w W W' : World} {g : Nat} (h : Kp (· = g) w W) (hb : Below W.heap.size W W') : Kp (· = g) w W' := h.trans (Kp.of_below hb) (fun _ _ h => h) (fun _ _ h => h)
theorem Kp.rf (w : World) (g : Nat) : Kp (· = g) w w := Kp.of_below (Below.refl _ _)

set_option maxRecDepth 100000 in
set_option maxHeartbeats 4000000 in
theorem markNodeS_three (g c : Nat) (p : Nat → Option Addr) (s : Nat → Nat) (w : World) (h : Box w g (three p s)) :
    Calls Try.prog 45 #[.slice (some ⟨g, 0, none⟩) 3 c, .int .i64 1] w fun e w' => e = .returned (.int .i64 10) ∧ Box w' g (three' p s) ∧ Kp (· = g) w w' := by
  have X : Hid (Box w g [.int .i64 0, .int .i64 0, .int .i64 0, .slice (p 0) 0 (s 0), .slice (p 1) 0 (s 1), .slice (p 2) 0 (s 2), .slice (p 3) 0 (s 3), .int .i64 1, .int .i64 0, .int .i64 0, .slice (p 4) 0 (s 4), .slice (p 5) 0 (s 5), .slice (p 6) 0 (s 6), .slice (p 7) 0 (s 7), .int .i64 2, .int .i64 0, .int .i64 0, .slice (p 8) 0 (s 8), .slice (p 9) 0 (s 9), .slice (p 10) 0 (s 10), .slice (p 11) 0 (s 11)] ∧ Kp (· = g) w w) := ⟨h, Kp.rf _ _⟩
  clear h
  go_enter Try.func45, Try.ntmps45
  go_wp2
  refine wp_loop_rounds 4 ?_
  rw [rounds_succ]
  have x0 : World.cell? w ⟨g, 0, none⟩ = some (.int .i64 0) := (X.out.1.is 0 (by simp)).1
  have x1 : World.cell? w ⟨g, 1, none⟩ = some (.int .i64 0) := (X.out.1.is 1 (by simp)).1
  have x2 : World.cell? w ⟨g, 2, none⟩ = some (.int .i64 0) := (X.out.1.is 2 (by simp)).1
  have x3 : World.cell? w ⟨g, 3, none⟩ = some (.slice (p 0) 0 (s 0)) := (X.out.1.is 3 (by simp)).1
  have x4 : World.cell? w ⟨g, 4, none⟩ = some (.slice (p 1) 0 (s 1)) := (X.out.1.is 4 (by simp)).1
  have x5 : World.cell? w ⟨g, 5, none⟩ = some (.slice (p 2) 0 (s 2)) := (X.out.1.is 5 (by simp)).1
  have x6 : World.cell? w ⟨g, 6, none⟩ = some (.slice (p 3) 0 (s 3)) := (X.out.1.is 6 (by simp)).1
  have f0 : World.frozen? w ⟨g, 0, none⟩ = false := (X.out.1.is 0 (by simp)).2
  have f1 : World.frozen? w ⟨g, 1, none⟩ = false := (X.out.1.is 1 (by simp)).2
  have f2 : World.frozen? w ⟨g, 2, none⟩ = false := (X.out.1.is 2 (by simp)).2
  go_wp2_with fail
  refine Calls.mono (markCellS_nil _ _ _ _) ?_
  rintro e W1 ⟨rfl, hb⟩
  replace X : Hid (Box W1 g [.int .i64 1, .int .i64 2, .int .i64 3, .slice (p 0) 0 (s 0), .slice (p 1) 0 (s 1), .slice (p 2) 0 (s 2), .slice (p 3) 0 (s 3), .int .i64 1, .int .i64 0, .int .i64 0, .slice (p 4) 0 (s 4), .slice (p 5) 0 (s 5), .slice (p 6) 0 (s 6), .slice (p 7) 0 (s 7), .int .i64 2, .int .i64 0, .int .i64 0, .slice (p 8) 0 (s 8), .slice (p 9) 0 (s 9), .slice (p 10) 0 (s 10), .slice (p 11) 0 (s 11)] ∧ Kp (· = g) w W1) := ⟨by
    have := (((X.out.1.set (i := 0) (u := .int .i64 1) (by simp)).set (i := 1) (u := .int .i64 2) (by simp)).set (i := 2) (u := .int .i64 3) (by simp)).next hb
    simpa using this, X.out.2.st.st.st.nx hb⟩
  clear hb x0 x1 x2 x3 x4 x5 x6 f0 f1 f2
  have x0 : World.cell? W1 ⟨g, 0, none⟩ = some (.int .i64 1) := (X.out.1.is 0 (by simp)).1
  have x1 : World.cell? W1 ⟨g, 1, none⟩ = some (.int .i64 2) := (X.out.1.is 1 (by simp)).1
  have x2 : World.cell? W1 ⟨g, 2, none⟩ = some (.int .i64 3) := (X.out.1.is 2 (by simp)).1
  have x3 : World.cell? W1 ⟨g, 3, none⟩ = some (.slice (p 0) 0 (s 0)) := (X.out.1.is 3 (by simp)).1
  have x4 : World.cell? W1 ⟨g, 4, none⟩ = some (.slice (p 1) 0 (s 1)) := (X.out.1.is 4 (by simp)).1
  have x5 : World.cell? W1 ⟨g, 5, none⟩ = some (.slice (p 2) 0 (s 2)) := (X.out.1.is 5 (by simp)).1
  have x6 : World.cell? W1 ⟨g, 6, none⟩ = some (.slice (p 3) 0 (s 3)) := (X.out.1.is 6 (by simp)).1
  go_wp2_with fail
  refine Calls.mono (markEntryS_nil _ _ _ _) ?_
  rintro e W2 ⟨rfl, hb⟩
  replace X : Hid (Box W2 g [.int .i64 1, .int .i64 2, .int .i64 3, .slice (p 0) 0 (s 0), .slice (p 1) 0 (s 1), .slice (p 2) 0 (s 2), .slice (p 3) 0 (s 3), .int .i64 1, .int .i64 0, .int .i64 0, .slice (p 4) 0 (s 4), .slice (p 5) 0 (s 5), .slice (p 6) 0 (s 6), .slice (p 7) 0 (s 7), .int .i64 2, .int .i64 0, .int .i64 0, .slice (p 8) 0 (s 8), .slice (p 9) 0 (s 9), .slice (p 10) 0 (s 10), .slice (p 11) 0 (s 11)] ∧ Kp (· = g) w W2) := ⟨X.out.1.next hb, X.out.2.nx hb⟩
  clear hb x0 x1 x2 x3 x4 x5 x6
  have x0 : World.cell? W2 ⟨g, 0, none⟩ = some (.int .i64 1) := (X.out.1.is 0 (by simp)).1
  have x1 : World.cell? W2 ⟨g, 1, none⟩ = some (.int .i64 2) := (X.out.1.is 1 (by simp)).1
  have x2 : World.cell? W2 ⟨g, 2, none⟩ = some (.int .i64 3) := (X.out.1.is 2 (by simp)).1
  have x3 : World.cell? W2 ⟨g, 3, none⟩ = some (.slice (p 0) 0 (s 0)) := (X.out.1.is 3 (by simp)).1
  have x4 : World.cell? W2 ⟨g, 4, none⟩ = some (.slice (p 1) 0 (s 1)) := (X.out.1.is 4 (by simp)).1
  have x5 : World.cell? W2 ⟨g, 5, none⟩ = some (.slice (p 2) 0 (s 2)) := (X.out.1.is 5 (by simp)).1
  have x6 : World.cell? W2 ⟨g, 6, none⟩ = some (.slice (p 3) 0 (s 3)) := (X.out.1.is 6 (by simp)).1
  go_wp2_with fail
  refine Calls.mono (markStringS_nil _ _ _ _) ?_
  rintro e W3 ⟨rfl, hb⟩
  replace X : Hid (Box W3 g [.int .i64 1, .int .i64 2, .int .i64 3, .slice (p 0) 0 (s 0), .slice (p 1) 0 (s 1), .slice (p 2) 0 (s 2), .slice (p 3) 0 (s 3), .int .i64 1, .int .i64 0, .int .i64 0, .slice (p 4) 0 (s 4), .slice (p 5) 0 (s 5), .slice (p 6) 0 (s 6), .slice (p 7) 0 (s 7), .int .i64 2, .int .i64 0, .int .i64 0, .slice (p 8) 0 (s 8), .slice (p 9) 0 (s 9), .slice (p 10) 0 (s 10), .slice (p 11) 0 (s 11)] ∧ Kp (· = g) w W3) := ⟨X.out.1.next hb, X.out.2.nx hb⟩
  clear hb x0 x1 x2 x3 x4 x5 x6
  have x0 : World.cell? W3 ⟨g, 0, none⟩ = some (.int .i64 1) := (X.out.1.is 0 (by simp)).1
  have x1 : World.cell? W3 ⟨g, 1, none⟩ = some (.int .i64 2) := (X.out.1.is 1 (by simp)).1
  have x2 : World.cell? W3 ⟨g, 2, none⟩ = some (.int .i64 3) := (X.out.1.is 2 (by simp)).1
  have x3 : World.cell? W3 ⟨g, 3, none⟩ = some (.slice (p 0) 0 (s 0)) := (X.out.1.is 3 (by simp)).1
  have x4 : World.cell? W3 ⟨g, 4, none⟩ = some (.slice (p 1) 0 (s 1)) := (X.out.1.is 4 (by simp)).1
  have x5 : World.cell? W3 ⟨g, 5, none⟩ = some (.slice (p 2) 0 (s 2)) := (X.out.1.is 5 (by simp)).1
  have x6 : World.cell? W3 ⟨g, 6, none⟩ = some (.slice (p 3) 0 (s 3)) := (X.out.1.is 6 (by simp)).1
  go_wp2_with fail
  refine Calls.mono (markStringS_nil _ _ _ _) ?_
  rintro e W4 ⟨rfl, hb⟩
  replace X : Hid (Box W4 g [.int .i64 1, .int .i64 2, .int .i64 3, .slice (p 0) 0 (s 0), .slice (p 1) 0 (s 1), .slice (p 2) 0 (s 2), .slice (p 3) 0 (s 3), .int .i64 1, .int .i64 0, .int .i64 0, .slice (p 4) 0 (s 4), .slice (p 5) 0 (s 5), .slice (p 6) 0 (s 6), .slice (p 7) 0 (s 7), .int .i64 2, .int .i64 0, .int .i64 0, .slice (p 8) 0 (s 8), .slice (p 9) 0 (s 9), .slice (p 10) 0 (s 10), .slice (p 11) 0 (s 11)] ∧ Kp (· = g) w W4) := ⟨X.out.1.next hb, X.out.2.nx hb⟩
  clear hb x0 x1 x2 x3 x4 x5 x6
  have x0 : World.cell? W4 ⟨g, 0, none⟩ = some (.int .i64 1) := (X.out.1.is 0 (by simp)).1
  have x1 : World.cell? W4 ⟨g, 1, none⟩ = some (.int .i64 2) := (X.out.1.is 1 (by simp)).1
  have x2 : World.cell? W4 ⟨g, 2, none⟩ = some (.int .i64 3) := (X.out.1.is 2 (by simp)).1
  have x3 : World.cell? W4 ⟨g, 3, none⟩ = some (.slice (p 0) 0 (s 0)) := (X.out.1.is 3 (by simp)).1
  have x4 : World.cell? W4 ⟨g, 4, none⟩ = some (.slice (p 1) 0 (s 1)) := (X.out.1.is 4 (by simp)).1
  have x5 : World.cell? W4 ⟨g, 5, none⟩ = some (.slice (p 2) 0 (s 2)) := (X.out.1.is 5 (by simp)).1
  have x6 : World.cell? W4 ⟨g, 6, none⟩ = some (.slice (p 3) 0 (s 3)) := (X.out.1.is 6 (by simp)).1
  go_wp2
  clear x0 x1 x2 x3 x4 x5 x6
  rw [rounds_succ]
  have x0 : World.cell? W4 ⟨g, 7, none⟩ = some (.int .i64 1) := (X.out.1.is 7 (by simp)).1
  have x1 : World.cell? W4 ⟨g, 8, none⟩ = some (.int .i64 0) := (X.out.1.is 8 (by simp)).1
  have x2 : World.cell? W4 ⟨g, 9, none⟩ = some (.int .i64 0) := (X.out.1.is 9 (by simp)).1
  have x3 : World.cell? W4 ⟨g, 10, none⟩ = some (.slice (p 4) 0 (s 4)) := (X.out.1.is 10 (by simp)).1
  have x4 : World.cell? W4 ⟨g, 11, none⟩ = some (.slice (p 5) 0 (s 5)) := (X.out.1.is 11 (by simp)).1
  have x5 : World.cell? W4 ⟨g, 12, none⟩ = some (.slice (p 6) 0 (s 6)) := (X.out.1.is 12 (by simp)).1
  have x6 : World.cell? W4 ⟨g, 13, none⟩ = some (.slice (p 7) 0 (s 7)) := (X.out.1.is 13 (by simp)).1
  have f0 : World.frozen? W4 ⟨g, 7, none⟩ = false := (X.out.1.is 7 (by simp)).2
  have f1 : World.frozen? W4 ⟨g, 8, none⟩ = false := (X.out.1.is 8 (by simp)).2
  have f2 : World.frozen? W4 ⟨g, 9, none⟩ = false := (X.out.1.is 9 (by simp)).2
  go_wp2_with fail
  refine Calls.mono (markCellS_nil _ _ _ _) ?_
  rintro e W5 ⟨rfl, hb⟩
  replace X : Hid (Box W5 g [.int .i64 1, .int .i64 2, .int .i64 3, .slice (p 0) 0 (s 0), .slice (p 1) 0 (s 1), .slice (p 2) 0 (s 2), .slice (p 3) 0 (s 3), .int .i64 4, .int .i64 5, .int .i64 6, .slice (p 4) 0 (s 4), .slice (p 5) 0 (s 5), .slice (p 6) 0 (s 6), .slice (p 7) 0 (s 7), .int .i64 2, .int .i64 0, .int .i64 0, .slice (p 8) 0 (s 8), .slice (p 9) 0 (s 9), .slice (p 10) 0 (s 10), .slice (p 11) 0 (s 11)] ∧ Kp (· = g) w W5) := ⟨by
    have := (((X.out.1.set (i := 7) (u := .int .i64 4) (by simp)).set (i := 8) (u := .int .i64 5) (by simp)).set (i := 9) (u := .int .i64 6) (by simp)).next hb
    simpa using this, X.out.2.st.st.st.nx hb⟩
  clear hb x0 x1 x2 x3 x4 x5 x6 f0 f1 f2
  have x0 : World.cell? W5 ⟨g, 7, none⟩ = some (.int .i64 4) := (X.out.1.is 7 (by simp)).1
  have x1 : World.cell? W5 ⟨g, 8, none⟩ = some (.int .i64 5) := (X.out.1.is 8 (by simp)).1
  have x2 : World.cell? W5 ⟨g, 9, none⟩ = some (.int .i64 6) := (X.out.1.is 9 (by simp)).1
  have x3 : World.cell? W5 ⟨g, 10, none⟩ = some (.slice (p 4) 0 (s 4)) := (X.out.1.is 10 (by simp)).1
  have x4 : World.cell? W5 ⟨g, 11, none⟩ = some (.slice (p 5) 0 (s 5)) := (X.out.1.is 11 (by simp)).1
  have x5 : World.cell? W5 ⟨g, 12, none⟩ = some (.slice (p 6) 0 (s 6)) := (X.out.1.is 12 (by simp)).1
  have x6 : World.cell? W5 ⟨g, 13, none⟩ = some (.slice (p 7) 0 (s 7)) := (X.out.1.is 13 (by simp)).1
  go_wp2_with fail
  refine Calls.mono (markEntryS_nil _ _ _ _) ?_
  rintro e W6 ⟨rfl, hb⟩
  replace X : Hid (Box W6 g [.int .i64 1, .int .i64 2, .int .i64 3, .slice (p 0) 0 (s 0), .slice (p 1) 0 (s 1), .slice (p 2) 0 (s 2), .slice (p 3) 0 (s 3), .int .i64 4, .int .i64 5, .int .i64 6, .slice (p 4) 0 (s 4), .slice (p 5) 0 (s 5), .slice (p 6) 0 (s 6), .slice (p 7) 0 (s 7), .int .i64 2, .int .i64 0, .int .i64 0, .slice (p 8) 0 (s 8), .slice (p 9) 0 (s 9), .slice (p 10) 0 (s 10), .slice (p 11) 0 (s 11)] ∧ Kp (· = g) w W6) := ⟨X.out.1.next hb, X.out.2.nx hb⟩
  clear hb x0 x1 x2 x3 x4 x5 x6
  have x0 : World.cell? W6 ⟨g, 7, none⟩ = some (.int .i64 4) := (X.out.1.is 7 (by simp)).1
  have x1 : World.cell? W6 ⟨g, 8, none⟩ = some (.int .i64 5) := (X.out.1.is 8 (by simp)).1
  have x2 : World.cell? W6 ⟨g, 9, none⟩ = some (.int .i64 6) := (X.out.1.is 9 (by simp)).1
  have x3 : World.cell? W6 ⟨g, 10, none⟩ = some (.slice (p 4) 0 (s 4)) := (X.out.1.is 10 (by simp)).1
  have x4 : World.cell? W6 ⟨g, 11, none⟩ = some (.slice (p 5) 0 (s 5)) := (X.out.1.is 11 (by simp)).1
  have x5 : World.cell? W6 ⟨g, 12, none⟩ = some (.slice (p 6) 0 (s 6)) := (X.out.1.is 12 (by simp)).1
  have x6 : World.cell? W6 ⟨g, 13, none⟩ = some (.slice (p 7) 0 (s 7)) := (X.out.1.is 13 (by simp)).1
  go_wp2_with fail
  refine Calls.mono (markStringS_nil _ _ _ _) ?_
  rintro e W7 ⟨rfl, hb⟩
  replace X : Hid (Box W7 g [.int .i64 1, .int .i64 2, .int .i64 3, .slice (p 0) 0 (s 0), .slice (p 1) 0 (s 1), .slice (p 2) 0 (s 2), .slice (p 3) 0 (s 3), .int .i64 4, .int .i64 5, .int .i64 6, .slice (p 4) 0 (s 4), .slice (p 5) 0 (s 5), .slice (p 6) 0 (s 6), .slice (p 7) 0 (s 7), .int .i64 2, .int .i64 0, .int .i64 0, .slice (p 8) 0 (s 8), .slice (p 9) 0 (s 9), .slice (p 10) 0 (s 10), .slice (p 11) 0 (s 11)] ∧ Kp (· = g) w W7) := ⟨X.out.1.next hb, X.out.2.nx hb⟩
  clear hb x0 x1 x2 x3 x4 x5 x6
  have x0 : World.cell? W7 ⟨g, 7, none⟩ = some (.int .i64 4) := (X.out.1.is 7 (by simp)).1
  have x1 : World.cell? W7 ⟨g, 8, none⟩ = some (.int .i64 5) := (X.out.1.is 8 (by simp)).1
  have x2 : World.cell? W7 ⟨g, 9, none⟩ = some (.int .i64 6) := (X.out.1.is 9 (by simp)).1
  have x3 : World.cell? W7 ⟨g, 10, none⟩ = some (.slice (p 4) 0 (s 4)) := (X.out.1.is 10 (by simp)).1
  have x4 : World.cell? W7 ⟨g, 11, none⟩ = some (.slice (p 5) 0 (s 5)) := (X.out.1.is 11 (by simp)).1
  have x5 : World.cell? W7 ⟨g, 12, none⟩ = some (.slice (p 6) 0 (s 6)) := (X.out.1.is 12 (by simp)).1
  have x6 : World.cell? W7 ⟨g, 13, none⟩ = some (.slice (p 7) 0 (s 7)) := (X.out.1.is 13 (by simp)).1
  go_wp2_with fail
  refine Calls.mono (markStringS_nil _ _ _ _) ?_
  rintro e W8 ⟨rfl, hb⟩
  replace X : Hid (Box W8 g [.int .i64 1, .int .i64 2, .int .i64 3, .slice (p 0) 0 (s 0), .slice (p 1) 0 (s 1), .slice (p 2) 0 (s 2), .slice (p 3) 0 (s 3), .int .i64 4, .int .i64 5, .int .i64 6, .slice (p 4) 0 (s 4), .slice (p 5) 0 (s 5), .slice (p 6) 0 (s 6), .slice (p 7) 0 (s 7), .int .i64 2, .int .i64 0, .int .i64 0, .slice (p 8) 0 (s 8), .slice (p 9) 0 (s 9), .slice (p 10) 0 (s 10), .slice (p 11) 0 (s 11)] ∧ Kp (· = g) w W8) := ⟨X.out.1.next hb, X.out.2.nx hb⟩
  clear hb x0 x1 x2 x3 x4 x5 x6
  have x0 : World.cell? W8 ⟨g, 7, none⟩ = some (.int .i64 4) := (X.out.1.is 7 (by simp)).1
  have x1 : World.cell? W8 ⟨g, 8, none⟩ = some (.int .i64 5) := (X.out.1.is 8 (by simp)).1
  have x2 : World.cell? W8 ⟨g, 9, none⟩ = some (.int .i64 6) := (X.out.1.is 9 (by simp)).1
  have x3 : World.cell? W8 ⟨g, 10, none⟩ = some (.slice (p 4) 0 (s 4)) := (X.out.1.is 10 (by simp)).1
  have x4 : World.cell? W8 ⟨g, 11, none⟩ = some (.slice (p 5) 0 (s 5)) := (X.out.1.is 11 (by simp)).1
  have x5 : World.cell? W8 ⟨g, 12, none⟩ = some (.slice (p 6) 0 (s 6)) := (X.out.1.is 12 (by simp)).1
  have x6 : World.cell? W8 ⟨g, 13, none⟩ = some (.slice (p 7) 0 (s 7)) := (X.out.1.is 13 (by simp)).1
  go_wp2
  clear x0 x1 x2 x3 x4 x5 x6
  rw [rounds_succ]
  have x0 : World.cell? W8 ⟨g, 14, none⟩ = some (.int .i64 2) := (X.out.1.is 14 (by simp)).1
  have x1 : World.cell? W8 ⟨g, 15, none⟩ = some (.int .i64 0) := (X.out.1.is 15 (by simp)).1
  have x2 : World.cell? W8 ⟨g, 16, none⟩ = some (.int .i64 0) := (X.out.1.is 16 (by simp)).1
  have x3 : World.cell? W8 ⟨g, 17, none⟩ = some (.slice (p 8) 0 (s 8)) := (X.out.1.is 17 (by simp)).1
  have x4 : World.cell? W8 ⟨g, 18, none⟩ = some (.slice (p 9) 0 (s 9)) := (X.out.1.is 18 (by simp)).1
  have x5 : World.cell? W8 ⟨g, 19, none⟩ = some (.slice (p 10) 0 (s 10)) := (X.out.1.is 19 (by simp)).1
  have x6 : World.cell? W8 ⟨g, 20, none⟩ = some (.slice (p 11) 0 (s 11)) := (X.out.1.is 20 (by simp)).1
  have f0 : World.frozen? W8 ⟨g, 14, none⟩ = false := (X.out.1.is 14 (by simp)).2
  have f1 : World.frozen? W8 ⟨g, 15, none⟩ = false := (X.out.1.is 15 (by simp)).2
  have f2 : World.frozen? W8 ⟨g, 16, none⟩ = false := (X.out.1.is 16 (by simp)).2
  go_wp2_with fail
  refine Calls.mono (markCellS_nil _ _ _ _) ?_
  rintro e W9 ⟨rfl, hb⟩
  replace X : Hid (Box W9 g [.int .i64 1, .int .i64 2, .int .i64 3, .slice (p 0) 0 (s 0), .slice (p 1) 0 (s 1), .slice (p 2) 0 (s 2), .slice (p 3) 0 (s 3), .int .i64 4, .int .i64 5, .int .i64 6, .slice (p 4) 0 (s 4), .slice (p 5) 0 (s 5), .slice (p 6) 0 (s 6), .slice (p 7) 0 (s 7), .int .i64 7, .int .i64 8, .int .i64 9, .slice (p 8) 0 (s 8), .slice (p 9) 0 (s 9), .slice (p 10) 0 (s 10), .slice (p 11) 0 (s 11)] ∧ Kp (· = g) w W9) := ⟨by
    have := (((X.out.1.set (i := 14) (u := .int .i64 7) (by simp)).set (i := 15) (u := .int .i64 8) (by simp)).set (i := 16) (u := .int .i64 9) (by simp)).next hb
    simpa using this, X.out.2.st.st.st.nx hb⟩
  clear hb x0 x1 x2 x3 x4 x5 x6 f0 f1 f2
  have x0 : World.cell? W9 ⟨g, 14, none⟩ = some (.int .i64 7) := (X.out.1.is 14 (by simp)).1
  have x1 : World.cell? W9 ⟨g, 15, none⟩ = some (.int .i64 8) := (X.out.1.is 15 (by simp)).1
  have x2 : World.cell? W9 ⟨g, 16, none⟩ = some (.int .i64 9) := (X.out.1.is 16 (by simp)).1
  have x3 : World.cell? W9 ⟨g, 17, none⟩ = some (.slice (p 8) 0 (s 8)) := (X.out.1.is 17 (by simp)).1
  have x4 : World.cell? W9 ⟨g, 18, none⟩ = some (.slice (p 9) 0 (s 9)) := (X.out.1.is 18 (by simp)).1
  have x5 : World.cell? W9 ⟨g, 19, none⟩ = some (.slice (p 10) 0 (s 10)) := (X.out.1.is 19 (by simp)).1
  have x6 : World.cell? W9 ⟨g, 20, none⟩ = some (.slice (p 11) 0 (s 11)) := (X.out.1.is 20 (by simp)).1
  go_wp2_with fail
  refine Calls.mono (markEntryS_nil _ _ _ _) ?_
  rintro e W10 ⟨rfl, hb⟩
  replace X : Hid (Box W10 g [.int .i64 1, .int .i64 2, .int .i64 3, .slice (p 0) 0 (s 0), .slice (p 1) 0 (s 1), .slice (p 2) 0 (s 2), .slice (p 3) 0 (s 3), .int .i64 4, .int .i64 5, .int .i64 6, .slice (p 4) 0 (s 4), .slice (p 5) 0 (s 5), .slice (p 6) 0 (s 6), .slice (p 7) 0 (s 7), .int .i64 7, .int .i64 8, .int .i64 9, .slice (p 8) 0 (s 8), .slice (p 9) 0 (s 9), .slice (p 10) 0 (s 10), .slice (p 11) 0 (s 11)] ∧ Kp (· = g) w W10) := ⟨X.out.1.next hb, X.out.2.nx hb⟩
  clear hb x0 x1 x2 x3 x4 x5 x6
  have x0 : World.cell? W10 ⟨g, 14, none⟩ = some (.int .i64 7) := (X.out.1.is 14 (by simp)).1
  have x1 : World.cell? W10 ⟨g, 15, none⟩ = some (.int .i64 8) := (X.out.1.is 15 (by simp)).1
  have x2 : World.cell? W10 ⟨g, 16, none⟩ = some (.int .i64 9) := (X.out.1.is 16 (by simp)).1
  have x3 : World.cell? W10 ⟨g, 17, none⟩ = some (.slice (p 8) 0 (s 8)) := (X.out.1.is 17 (by simp)).1
  have x4 : World.cell? W10 ⟨g, 18, none⟩ = some (.slice (p 9) 0 (s 9)) := (X.out.1.is 18 (by simp)).1
  have x5 : World.cell? W10 ⟨g, 19, none⟩ = some (.slice (p 10) 0 (s 10)) := (X.out.1.is 19 (by simp)).1
  have x6 : World.cell? W10 ⟨g, 20, none⟩ = some (.slice (p 11) 0 (s 11)) := (X.out.1.is 20 (by simp)).1
  go_wp2_with fail
  refine Calls.mono (markStringS_nil _ _ _ _) ?_
  rintro e W11 ⟨rfl, hb⟩
  replace X : Hid (Box W11 g [.int .i64 1, .int .i64 2, .int .i64 3, .slice (p 0) 0 (s 0), .slice (p 1) 0 (s 1), .slice (p 2) 0 (s 2), .slice (p 3) 0 (s 3), .int .i64 4, .int .i64 5, .int .i64 6, .slice (p 4) 0 (s 4), .slice (p 5) 0 (s 5), .slice (p 6) 0 (s 6), .slice (p 7) 0 (s 7), .int .i64 7, .int .i64 8, .int .i64 9, .slice (p 8) 0 (s 8), .slice (p 9) 0 (s 9), .slice (p 10) 0 (s 10), .slice (p 11) 0 (s 11)] ∧ Kp (· = g) w W11) := ⟨X.out.1.next hb, X.out.2.nx hb⟩
  clear hb x0 x1 x2 x3 x4 x5 x6
  have x0 : World.cell? W11 ⟨g, 14, none⟩ = some (.int .i64 7) := (X.out.1.is 14 (by simp)).1
  have x1 : World.cell? W11 ⟨g, 15, none⟩ = some (.int .i64 8) := (X.out.1.is 15 (by simp)).1
  have x2 : World.cell? W11 ⟨g, 16, none⟩ = some (.int .i64 9) := (X.out.1.is 16 (by simp)).1
  have x3 : World.cell? W11 ⟨g, 17, none⟩ = some (.slice (p 8) 0 (s 8)) := (X.out.1.is 17 (by simp)).1
  have x4 : World.cell? W11 ⟨g, 18, none⟩ = some (.slice (p 9) 0 (s 9)) := (X.out.1.is 18 (by simp)).1
  have x5 : World.cell? W11 ⟨g, 19, none⟩ = some (.slice (p 10) 0 (s 10)) := (X.out.1.is 19 (by simp)).1
  have x6 : World.cell? W11 ⟨g, 20, none⟩ = some (.slice (p 11) 0 (s 11)) := (X.out.1.is 20 (by simp)).1
  go_wp2_with fail
  refine Calls.mono (markStringS_nil _ _ _ _) ?_
  rintro e W12 ⟨rfl, hb⟩
  replace X : Hid (Box W12 g [.int .i64 1, .int .i64 2, .int .i64 3, .slice (p 0) 0 (s 0), .slice (p 1) 0 (s 1), .slice (p 2) 0 (s 2), .slice (p 3) 0 (s 3), .int .i64 4, .int .i64 5, .int .i64 6, .slice (p 4) 0 (s 4), .slice (p 5) 0 (s 5), .slice (p 6) 0 (s 6), .slice (p 7) 0 (s 7), .int .i64 7, .int .i64 8, .int .i64 9, .slice (p 8) 0 (s 8), .slice (p 9) 0 (s 9), .slice (p 10) 0 (s 10), .slice (p 11) 0 (s 11)] ∧ Kp (· = g) w W12) := ⟨X.out.1.next hb, X.out.2.nx hb⟩
  clear hb x0 x1 x2 x3 x4 x5 x6
  have x0 : World.cell? W12 ⟨g, 14, none⟩ = some (.int .i64 7) := (X.out.1.is 14 (by simp)).1
  have x1 : World.cell? W12 ⟨g, 15, none⟩ = some (.int .i64 8) := (X.out.1.is 15 (by simp)).1
  have x2 : World.cell? W12 ⟨g, 16, none⟩ = some (.int .i64 9) := (X.out.1.is 16 (by simp)).1
  have x3 : World.cell? W12 ⟨g, 17, none⟩ = some (.slice (p 8) 0 (s 8)) := (X.out.1.is 17 (by simp)).1
  have x4 : World.cell? W12 ⟨g, 18, none⟩ = some (.slice (p 9) 0 (s 9)) := (X.out.1.is 18 (by simp)).1
  have x5 : World.cell? W12 ⟨g, 19, none⟩ = some (.slice (p 10) 0 (s 10)) := (X.out.1.is 19 (by simp)).1
  have x6 : World.cell? W12 ⟨g, 20, none⟩ = some (.slice (p 11) 0 (s 11)) := (X.out.1.is 20 (by simp)).1
  go_wp2
  clear x0 x1 x2 x3 x4 x5 x6
  rw [rounds_succ]
  go_wp2
  go_ret
  exact ⟨rfl, X.out.1, X.out.2⟩

set_option maxRecDepth 100000 in
set_option maxHeartbeats 4000000 in
theorem heldNodeS_three (g c : Nat) (p : Nat → Option Addr) (s : Nat → Nat) (w : World) (h : Box w g (three' p s)) :
    Calls Try.prog 51 #[.slice (some ⟨g, 0, none⟩) 3 c, .int .i64 1] w fun e w' => e = .returned (.int .i64 10) ∧ Below w.heap.size w w' := by
  have X : Hid (Box w g [.int .i64 1, .int .i64 2, .int .i64 3, .slice (p 0) 0 (s 0), .slice (p 1) 0 (s 1), .slice (p 2) 0 (s 2), .slice (p 3) 0 (s 3), .int .i64 4, .int .i64 5, .int .i64 6, .slice (p 4) 0 (s 4), .slice (p 5) 0 (s 5), .slice (p 6) 0 (s 6), .slice (p 7) 0 (s 7), .int .i64 7, .int .i64 8, .int .i64 9, .slice (p 8) 0 (s 8), .slice (p 9) 0 (s 9), .slice (p 10) 0 (s 10), .slice (p 11) 0 (s 11)] ∧ Below w.heap.size w w) := ⟨h, Below.refl _ _⟩
  clear h
  go_enter Try.func51, Try.ntmps51
  go_wp2
  refine wp_loop_rounds 4 ?_
  rw [rounds_succ]
  have x0 : World.cell? w ⟨g, 0, none⟩ = some (.int .i64 1) := (X.out.1.is 0 (by simp)).1
  have x1 : World.cell? w ⟨g, 1, none⟩ = some (.int .i64 2) := (X.out.1.is 1 (by simp)).1
  have x2 : World.cell? w ⟨g, 2, none⟩ = some (.int .i64 3) := (X.out.1.is 2 (by simp)).1
  have x3 : World.cell? w ⟨g, 3, none⟩ = some (.slice (p 0) 0 (s 0)) := (X.out.1.is 3 (by simp)).1
  have x4 : World.cell? w ⟨g, 4, none⟩ = some (.slice (p 1) 0 (s 1)) := (X.out.1.is 4 (by simp)).1
  have x5 : World.cell? w ⟨g, 5, none⟩ = some (.slice (p 2) 0 (s 2)) := (X.out.1.is 5 (by simp)).1
  have x6 : World.cell? w ⟨g, 6, none⟩ = some (.slice (p 3) 0 (s 3)) := (X.out.1.is 6 (by simp)).1
  go_wp2_with fail
  refine Calls.mono (heldCellS_nil _ _ _ _) ?_
  rintro e W1 ⟨rfl, hb⟩
  replace X : Hid (Box W1 g [.int .i64 1, .int .i64 2, .int .i64 3, .slice (p 0) 0 (s 0), .slice (p 1) 0 (s 1), .slice (p 2) 0 (s 2), .slice (p 3) 0 (s 3), .int .i64 4, .int .i64 5, .int .i64 6, .slice (p 4) 0 (s 4), .slice (p 5) 0 (s 5), .slice (p 6) 0 (s 6), .slice (p 7) 0 (s 7), .int .i64 7, .int .i64 8, .int .i64 9, .slice (p 8) 0 (s 8), .slice (p 9) 0 (s 9), .slice (p 10) 0 (s 10), .slice (p 11) 0 (s 11)] ∧ Below w.heap.size w W1) := ⟨X.out.1.next hb, X.out.2.trans (hb.mono X.out.2.size)⟩
  clear hb x0 x1 x2 x3 x4 x5 x6
  have x0 : World.cell? W1 ⟨g, 0, none⟩ = some (.int .i64 1) := (X.out.1.is 0 (by simp)).1
  have x1 : World.cell? W1 ⟨g, 1, none⟩ = some (.int .i64 2) := (X.out.1.is 1 (by simp)).1
  have x2 : World.cell? W1 ⟨g, 2, none⟩ = some (.int .i64 3) := (X.out.1.is 2 (by simp)).1
  have x3 : World.cell? W1 ⟨g, 3, none⟩ = some (.slice (p 0) 0 (s 0)) := (X.out.1.is 3 (by simp)).1
  have x4 : World.cell? W1 ⟨g, 4, none⟩ = some (.slice (p 1) 0 (s 1)) := (X.out.1.is 4 (by simp)).1
  have x5 : World.cell? W1 ⟨g, 5, none⟩ = some (.slice (p 2) 0 (s 2)) := (X.out.1.is 5 (by simp)).1
  have x6 : World.cell? W1 ⟨g, 6, none⟩ = some (.slice (p 3) 0 (s 3)) := (X.out.1.is 6 (by simp)).1
  go_wp2_with fail
  refine Calls.mono (heldEntryS_nil _ _ _ _) ?_
  rintro e W2 ⟨rfl, hb⟩
  replace X : Hid (Box W2 g [.int .i64 1, .int .i64 2, .int .i64 3, .slice (p 0) 0 (s 0), .slice (p 1) 0 (s 1), .slice (p 2) 0 (s 2), .slice (p 3) 0 (s 3), .int .i64 4, .int .i64 5, .int .i64 6, .slice (p 4) 0 (s 4), .slice (p 5) 0 (s 5), .slice (p 6) 0 (s 6), .slice (p 7) 0 (s 7), .int .i64 7, .int .i64 8, .int .i64 9, .slice (p 8) 0 (s 8), .slice (p 9) 0 (s 9), .slice (p 10) 0 (s 10), .slice (p 11) 0 (s 11)] ∧ Below w.heap.size w W2) := ⟨X.out.1.next hb, X.out.2.trans (hb.mono X.out.2.size)⟩
  clear hb x0 x1 x2 x3 x4 x5 x6
  have x0 : World.cell? W2 ⟨g, 0, none⟩ = some (.int .i64 1) := (X.out.1.is 0 (by simp)).1
  have x1 : World.cell? W2 ⟨g, 1, none⟩ = some (.int .i64 2) := (X.out.1.is 1 (by simp)).1
  have x2 : World.cell? W2 ⟨g, 2, none⟩ = some (.int .i64 3) := (X.out.1.is 2 (by simp)).1
  have x3 : World.cell? W2 ⟨g, 3, none⟩ = some (.slice (p 0) 0 (s 0)) := (X.out.1.is 3 (by simp)).1
  have x4 : World.cell? W2 ⟨g, 4, none⟩ = some (.slice (p 1) 0 (s 1)) := (X.out.1.is 4 (by simp)).1
  have x5 : World.cell? W2 ⟨g, 5, none⟩ = some (.slice (p 2) 0 (s 2)) := (X.out.1.is 5 (by simp)).1
  have x6 : World.cell? W2 ⟨g, 6, none⟩ = some (.slice (p 3) 0 (s 3)) := (X.out.1.is 6 (by simp)).1
  go_wp2_with fail
  refine Calls.mono (heldStringS_nil _ _ _ _) ?_
  rintro e W3 ⟨rfl, hb⟩
  replace X : Hid (Box W3 g [.int .i64 1, .int .i64 2, .int .i64 3, .slice (p 0) 0 (s 0), .slice (p 1) 0 (s 1), .slice (p 2) 0 (s 2), .slice (p 3) 0 (s 3), .int .i64 4, .int .i64 5, .int .i64 6, .slice (p 4) 0 (s 4), .slice (p 5) 0 (s 5), .slice (p 6) 0 (s 6), .slice (p 7) 0 (s 7), .int .i64 7, .int .i64 8, .int .i64 9, .slice (p 8) 0 (s 8), .slice (p 9) 0 (s 9), .slice (p 10) 0 (s 10), .slice (p 11) 0 (s 11)] ∧ Below w.heap.size w W3) := ⟨X.out.1.next hb, X.out.2.trans (hb.mono X.out.2.size)⟩
  clear hb x0 x1 x2 x3 x4 x5 x6
  have x0 : World.cell? W3 ⟨g, 0, none⟩ = some (.int .i64 1) := (X.out.1.is 0 (by simp)).1
  have x1 : World.cell? W3 ⟨g, 1, none⟩ = some (.int .i64 2) := (X.out.1.is 1 (by simp)).1
  have x2 : World.cell? W3 ⟨g, 2, none⟩ = some (.int .i64 3) := (X.out.1.is 2 (by simp)).1
  have x3 : World.cell? W3 ⟨g, 3, none⟩ = some (.slice (p 0) 0 (s 0)) := (X.out.1.is 3 (by simp)).1
  have x4 : World.cell? W3 ⟨g, 4, none⟩ = some (.slice (p 1) 0 (s 1)) := (X.out.1.is 4 (by simp)).1
  have x5 : World.cell? W3 ⟨g, 5, none⟩ = some (.slice (p 2) 0 (s 2)) := (X.out.1.is 5 (by simp)).1
  have x6 : World.cell? W3 ⟨g, 6, none⟩ = some (.slice (p 3) 0 (s 3)) := (X.out.1.is 6 (by simp)).1
  go_wp2_with fail
  refine Calls.mono (heldStringS_nil _ _ _ _) ?_
  rintro e W4 ⟨rfl, hb⟩
  replace X : Hid (Box W4 g [.int .i64 1, .int .i64 2, .int .i64 3, .slice (p 0) 0 (s 0), .slice (p 1) 0 (s 1), .slice (p 2) 0 (s 2), .slice (p 3) 0 (s 3), .int .i64 4, .int .i64 5, .int .i64 6, .slice (p 4) 0 (s 4), .slice (p 5) 0 (s 5), .slice (p 6) 0 (s 6), .slice (p 7) 0 (s 7), .int .i64 7, .int .i64 8, .int .i64 9, .slice (p 8) 0 (s 8), .slice (p 9) 0 (s 9), .slice (p 10) 0 (s 10), .slice (p 11) 0 (s 11)] ∧ Below w.heap.size w W4) := ⟨X.out.1.next hb, X.out.2.trans (hb.mono X.out.2.size)⟩
  clear hb x0 x1 x2 x3 x4 x5 x6
  have x0 : World.cell? W4 ⟨g, 0, none⟩ = some (.int .i64 1) := (X.out.1.is 0 (by simp)).1
  have x1 : World.cell? W4 ⟨g, 1, none⟩ = some (.int .i64 2) := (X.out.1.is 1 (by simp)).1
  have x2 : World.cell? W4 ⟨g, 2, none⟩ = some (.int .i64 3) := (X.out.1.is 2 (by simp)).1
  have x3 : World.cell? W4 ⟨g, 3, none⟩ = some (.slice (p 0) 0 (s 0)) := (X.out.1.is 3 (by simp)).1
  have x4 : World.cell? W4 ⟨g, 4, none⟩ = some (.slice (p 1) 0 (s 1)) := (X.out.1.is 4 (by simp)).1
  have x5 : World.cell? W4 ⟨g, 5, none⟩ = some (.slice (p 2) 0 (s 2)) := (X.out.1.is 5 (by simp)).1
  have x6 : World.cell? W4 ⟨g, 6, none⟩ = some (.slice (p 3) 0 (s 3)) := (X.out.1.is 6 (by simp)).1
  go_wp2
  clear x0 x1 x2 x3 x4 x5 x6
  rw [rounds_succ]
  have x0 : World.cell? W4 ⟨g, 7, none⟩ = some (.int .i64 4) := (X.out.1.is 7 (by simp)).1
  have x1 : World.cell? W4 ⟨g, 8, none⟩ = some (.int .i64 5) := (X.out.1.is 8 (by simp)).1
  have x2 : World.cell? W4 ⟨g, 9, none⟩ = some (.int .i64 6) := (X.out.1.is 9 (by simp)).1
  have x3 : World.cell? W4 ⟨g, 10, none⟩ = some (.slice (p 4) 0 (s 4)) := (X.out.1.is 10 (by simp)).1
  have x4 : World.cell? W4 ⟨g, 11, none⟩ = some (.slice (p 5) 0 (s 5)) := (X.out.1.is 11 (by simp)).1
  have x5 : World.cell? W4 ⟨g, 12, none⟩ = some (.slice (p 6) 0 (s 6)) := (X.out.1.is 12 (by simp)).1
  have x6 : World.cell? W4 ⟨g, 13, none⟩ = some (.slice (p 7) 0 (s 7)) := (X.out.1.is 13 (by simp)).1
  go_wp2_with fail
  refine Calls.mono (heldCellS_nil _ _ _ _) ?_
  rintro e W5 ⟨rfl, hb⟩
  replace X : Hid (Box W5 g [.int .i64 1, .int .i64 2, .int .i64 3, .slice (p 0) 0 (s 0), .slice (p 1) 0 (s 1), .slice (p 2) 0 (s 2), .slice (p 3) 0 (s 3), .int .i64 4, .int .i64 5, .int .i64 6, .slice (p 4) 0 (s 4), .slice (p 5) 0 (s 5), .slice (p 6) 0 (s 6), .slice (p 7) 0 (s 7), .int .i64 7, .int .i64 8, .int .i64 9, .slice (p 8) 0 (s 8), .slice (p 9) 0 (s 9), .slice (p 10) 0 (s 10), .slice (p 11) 0 (s 11)] ∧ Below w.heap.size w W5) := ⟨X.out.1.next hb, X.out.2.trans (hb.mono X.out.2.size)⟩
  clear hb x0 x1 x2 x3 x4 x5 x6
  have x0 : World.cell? W5 ⟨g, 7, none⟩ = some (.int .i64 4) := (X.out.1.is 7 (by simp)).1
  have x1 : World.cell? W5 ⟨g, 8, none⟩ = some (.int .i64 5) := (X.out.1.is 8 (by simp)).1
  have x2 : World.cell? W5 ⟨g, 9, none⟩ = some (.int .i64 6) := (X.out.1.is 9 (by simp)).1
  have x3 : World.cell? W5 ⟨g, 10, none⟩ = some (.slice (p 4) 0 (s 4)) := (X.out.1.is 10 (by simp)).1
  have x4 : World.cell? W5 ⟨g, 11, none⟩ = some (.slice (p 5) 0 (s 5)) := (X.out.1.is 11 (by simp)).1
  have x5 : World.cell? W5 ⟨g, 12, none⟩ = some (.slice (p 6) 0 (s 6)) := (X.out.1.is 12 (by simp)).1
  have x6 : World.cell? W5 ⟨g, 13, none⟩ = some (.slice (p 7) 0 (s 7)) := (X.out.1.is 13 (by simp)).1
  go_wp2_with fail
  refine Calls.mono (heldEntryS_nil _ _ _ _) ?_
  rintro e W6 ⟨rfl, hb⟩
  replace X : Hid (Box W6 g [.int .i64 1, .int .i64 2, .int .i64 3, .slice (p 0) 0 (s 0), .slice (p 1) 0 (s 1), .slice (p 2) 0 (s 2), .slice (p 3) 0 (s 3), .int .i64 4, .int .i64 5, .int .i64 6, .slice (p 4) 0 (s 4), .slice (p 5) 0 (s 5), .slice (p 6) 0 (s 6), .slice (p 7) 0 (s 7), .int .i64 7, .int .i64 8, .int .i64 9, .slice (p 8) 0 (s 8), .slice (p 9) 0 (s 9), .slice (p 10) 0 (s 10), .slice (p 11) 0 (s 11)] ∧ Below w.heap.size w W6) := ⟨X.out.1.next hb, X.out.2.trans (hb.mono X.out.2.size)⟩
  clear hb x0 x1 x2 x3 x4 x5 x6
  have x0 : World.cell? W6 ⟨g, 7, none⟩ = some (.int .i64 4) := (X.out.1.is 7 (by simp)).1
  have x1 : World.cell? W6 ⟨g, 8, none⟩ = some (.int .i64 5) := (X.out.1.is 8 (by simp)).1
  have x2 : World.cell? W6 ⟨g, 9, none⟩ = some (.int .i64 6) := (X.out.1.is 9 (by simp)).1
  have x3 : World.cell? W6 ⟨g, 10, none⟩ = some (.slice (p 4) 0 (s 4)) := (X.out.1.is 10 (by simp)).1
  have x4 : World.cell? W6 ⟨g, 11, none⟩ = some (.slice (p 5) 0 (s 5)) := (X.out.1.is 11 (by simp)).1
  have x5 : World.cell? W6 ⟨g, 12, none⟩ = some (.slice (p 6) 0 (s 6)) := (X.out.1.is 12 (by simp)).1
  have x6 : World.cell? W6 ⟨g, 13, none⟩ = some (.slice (p 7) 0 (s 7)) := (X.out.1.is 13 (by simp)).1
  go_wp2_with fail
  refine Calls.mono (heldStringS_nil _ _ _ _) ?_
  rintro e W7 ⟨rfl, hb⟩
  replace X : Hid (Box W7 g [.int .i64 1, .int .i64 2, .int .i64 3, .slice (p 0) 0 (s 0), .slice (p 1) 0 (s 1), .slice (p 2) 0 (s 2), .slice (p 3) 0 (s 3), .int .i64 4, .int .i64 5, .int .i64 6, .slice (p 4) 0 (s 4), .slice (p 5) 0 (s 5), .slice (p 6) 0 (s 6), .slice (p 7) 0 (s 7), .int .i64 7, .int .i64 8, .int .i64 9, .slice (p 8) 0 (s 8), .slice (p 9) 0 (s 9), .slice (p 10) 0 (s 10), .slice (p 11) 0 (s 11)] ∧ Below w.heap.size w W7) := ⟨X.out.1.next hb, X.out.2.trans (hb.mono X.out.2.size)⟩
  clear hb x0 x1 x2 x3 x4 x5 x6
  have x0 : World.cell? W7 ⟨g, 7, none⟩ = some (.int .i64 4) := (X.out.1.is 7 (by simp)).1
  have x1 : World.cell? W7 ⟨g, 8, none⟩ = some (.int .i64 5) := (X.out.1.is 8 (by simp)).1
  have x2 : World.cell? W7 ⟨g, 9, none⟩ = some (.int .i64 6) := (X.out.1.is 9 (by simp)).1
  have x3 : World.cell? W7 ⟨g, 10, none⟩ = some (.slice (p 4) 0 (s 4)) := (X.out.1.is 10 (by simp)).1
  have x4 : World.cell? W7 ⟨g, 11, none⟩ = some (.slice (p 5) 0 (s 5)) := (X.out.1.is 11 (by simp)).1
  have x5 : World.cell? W7 ⟨g, 12, none⟩ = some (.slice (p 6) 0 (s 6)) := (X.out.1.is 12 (by simp)).1
  have x6 : World.cell? W7 ⟨g, 13, none⟩ = some (.slice (p 7) 0 (s 7)) := (X.out.1.is 13 (by simp)).1
  go_wp2_with fail
  refine Calls.mono (heldStringS_nil _ _ _ _) ?_
  rintro e W8 ⟨rfl, hb⟩
  replace X : Hid (Box W8 g [.int .i64 1, .int .i64 2, .int .i64 3, .slice (p 0) 0 (s 0), .slice (p 1) 0 (s 1), .slice (p 2) 0 (s 2), .slice (p 3) 0 (s 3), .int .i64 4, .int .i64 5, .int .i64 6, .slice (p 4) 0 (s 4), .slice (p 5) 0 (s 5), .slice (p 6) 0 (s 6), .slice (p 7) 0 (s 7), .int .i64 7, .int .i64 8, .int .i64 9, .slice (p 8) 0 (s 8), .slice (p 9) 0 (s 9), .slice (p 10) 0 (s 10), .slice (p 11) 0 (s 11)] ∧ Below w.heap.size w W8) := ⟨X.out.1.next hb, X.out.2.trans (hb.mono X.out.2.size)⟩
  clear hb x0 x1 x2 x3 x4 x5 x6
  have x0 : World.cell? W8 ⟨g, 7, none⟩ = some (.int .i64 4) := (X.out.1.is 7 (by simp)).1
  have x1 : World.cell? W8 ⟨g, 8, none⟩ = some (.int .i64 5) := (X.out.1.is 8 (by simp)).1
  have x2 : World.cell? W8 ⟨g, 9, none⟩ = some (.int .i64 6) := (X.out.1.is 9 (by simp)).1
  have x3 : World.cell? W8 ⟨g, 10, none⟩ = some (.slice (p 4) 0 (s 4)) := (X.out.1.is 10 (by simp)).1
  have x4 : World.cell? W8 ⟨g, 11, none⟩ = some (.slice (p 5) 0 (s 5)) := (X.out.1.is 11 (by simp)).1
  have x5 : World.cell? W8 ⟨g, 12, none⟩ = some (.slice (p 6) 0 (s 6)) := (X.out.1.is 12 (by simp)).1
  have x6 : World.cell? W8 ⟨g, 13, none⟩ = some (.slice (p 7) 0 (s 7)) := (X.out.1.is 13 (by simp)).1
  go_wp2
  clear x0 x1 x2 x3 x4 x5 x6
  rw [rounds_succ]
  have x0 : World.cell? W8 ⟨g, 14, none⟩ = some (.int .i64 7) := (X.out.1.is 14 (by simp)).1
  have x1 : World.cell? W8 ⟨g, 15, none⟩ = some (.int .i64 8) := (X.out.1.is 15 (by simp)).1
  have x2 : World.cell? W8 ⟨g, 16, none⟩ = some (.int .i64 9) := (X.out.1.is 16 (by simp)).1
  have x3 : World.cell? W8 ⟨g, 17, none⟩ = some (.slice (p 8) 0 (s 8)) := (X.out.1.is 17 (by simp)).1
  have x4 : World.cell? W8 ⟨g, 18, none⟩ = some (.slice (p 9) 0 (s 9)) := (X.out.1.is 18 (by simp)).1
  have x5 : World.cell? W8 ⟨g, 19, none⟩ = some (.slice (p 10) 0 (s 10)) := (X.out.1.is 19 (by simp)).1
  have x6 : World.cell? W8 ⟨g, 20, none⟩ = some (.slice (p 11) 0 (s 11)) := (X.out.1.is 20 (by simp)).1
  go_wp2_with fail
  refine Calls.mono (heldCellS_nil _ _ _ _) ?_
  rintro e W9 ⟨rfl, hb⟩
  replace X : Hid (Box W9 g [.int .i64 1, .int .i64 2, .int .i64 3, .slice (p 0) 0 (s 0), .slice (p 1) 0 (s 1), .slice (p 2) 0 (s 2), .slice (p 3) 0 (s 3), .int .i64 4, .int .i64 5, .int .i64 6, .slice (p 4) 0 (s 4), .slice (p 5) 0 (s 5), .slice (p 6) 0 (s 6), .slice (p 7) 0 (s 7), .int .i64 7, .int .i64 8, .int .i64 9, .slice (p 8) 0 (s 8), .slice (p 9) 0 (s 9), .slice (p 10) 0 (s 10), .slice (p 11) 0 (s 11)] ∧ Below w.heap.size w W9) := ⟨X.out.1.next hb, X.out.2.trans (hb.mono X.out.2.size)⟩
  clear hb x0 x1 x2 x3 x4 x5 x6
  have x0 : World.cell? W9 ⟨g, 14, none⟩ = some (.int .i64 7) := (X.out.1.is 14 (by simp)).1
  have x1 : World.cell? W9 ⟨g, 15, none⟩ = some (.int .i64 8) := (X.out.1.is 15 (by simp)).1
  have x2 : World.cell? W9 ⟨g, 16, none⟩ = some (.int .i64 9) := (X.out.1.is 16 (by simp)).1
  have x3 : World.cell? W9 ⟨g, 17, none⟩ = some (.slice (p 8) 0 (s 8)) := (X.out.1.is 17 (by simp)).1
  have x4 : World.cell? W9 ⟨g, 18, none⟩ = some (.slice (p 9) 0 (s 9)) := (X.out.1.is 18 (by simp)).1
  have x5 : World.cell? W9 ⟨g, 19, none⟩ = some (.slice (p 10) 0 (s 10)) := (X.out.1.is 19 (by simp)).1
  have x6 : World.cell? W9 ⟨g, 20, none⟩ = some (.slice (p 11) 0 (s 11)) := (X.out.1.is 20 (by simp)).1
  go_wp2_with fail
  refine Calls.mono (heldEntryS_nil _ _ _ _) ?_
  rintro e W10 ⟨rfl, hb⟩
  replace X : Hid (Box W10 g [.int .i64 1, .int .i64 2, .int .i64 3, .slice (p 0) 0 (s 0), .slice (p 1) 0 (s 1), .slice (p 2) 0 (s 2), .slice (p 3) 0 (s 3), .int .i64 4, .int .i64 5, .int .i64 6, .slice (p 4) 0 (s 4), .slice (p 5) 0 (s 5), .slice (p 6) 0 (s 6), .slice (p 7) 0 (s 7), .int .i64 7, .int .i64 8, .int .i64 9, .slice (p 8) 0 (s 8), .slice (p 9) 0 (s 9), .slice (p 10) 0 (s 10), .slice (p 11) 0 (s 11)] ∧ Below w.heap.size w W10) := ⟨X.out.1.next hb, X.out.2.trans (hb.mono X.out.2.size)⟩
  clear hb x0 x1 x2 x3 x4 x5 x6
  have x0 : World.cell? W10 ⟨g, 14, none⟩ = some (.int .i64 7) := (X.out.1.is 14 (by simp)).1
  have x1 : World.cell? W10 ⟨g, 15, none⟩ = some (.int .i64 8) := (X.out.1.is 15 (by simp)).1
  have x2 : World.cell? W10 ⟨g, 16, none⟩ = some (.int .i64 9) := (X.out.1.is 16 (by simp)).1
  have x3 : World.cell? W10 ⟨g, 17, none⟩ = some (.slice (p 8) 0 (s 8)) := (X.out.1.is 17 (by simp)).1
  have x4 : World.cell? W10 ⟨g, 18, none⟩ = some (.slice (p 9) 0 (s 9)) := (X.out.1.is 18 (by simp)).1
  have x5 : World.cell? W10 ⟨g, 19, none⟩ = some (.slice (p 10) 0 (s 10)) := (X.out.1.is 19 (by simp)).1
  have x6 : World.cell? W10 ⟨g, 20, none⟩ = some (.slice (p 11) 0 (s 11)) := (X.out.1.is 20 (by simp)).1
  go_wp2_with fail
  refine Calls.mono (heldStringS_nil _ _ _ _) ?_
  rintro e W11 ⟨rfl, hb⟩
  replace X : Hid (Box W11 g [.int .i64 1, .int .i64 2, .int .i64 3, .slice (p 0) 0 (s 0), .slice (p 1) 0 (s 1), .slice (p 2) 0 (s 2), .slice (p 3) 0 (s 3), .int .i64 4, .int .i64 5, .int .i64 6, .slice (p 4) 0 (s 4), .slice (p 5) 0 (s 5), .slice (p 6) 0 (s 6), .slice (p 7) 0 (s 7), .int .i64 7, .int .i64 8, .int .i64 9, .slice (p 8) 0 (s 8), .slice (p 9) 0 (s 9), .slice (p 10) 0 (s 10), .slice (p 11) 0 (s 11)] ∧ Below w.heap.size w W11) := ⟨X.out.1.next hb, X.out.2.trans (hb.mono X.out.2.size)⟩
  clear hb x0 x1 x2 x3 x4 x5 x6
  have x0 : World.cell? W11 ⟨g, 14, none⟩ = some (.int .i64 7) := (X.out.1.is 14 (by simp)).1
  have x1 : World.cell? W11 ⟨g, 15, none⟩ = some (.int .i64 8) := (X.out.1.is 15 (by simp)).1
  have x2 : World.cell? W11 ⟨g, 16, none⟩ = some (.int .i64 9) := (X.out.1.is 16 (by simp)).1
  have x3 : World.cell? W11 ⟨g, 17, none⟩ = some (.slice (p 8) 0 (s 8)) := (X.out.1.is 17 (by simp)).1
  have x4 : World.cell? W11 ⟨g, 18, none⟩ = some (.slice (p 9) 0 (s 9)) := (X.out.1.is 18 (by simp)).1
  have x5 : World.cell? W11 ⟨g, 19, none⟩ = some (.slice (p 10) 0 (s 10)) := (X.out.1.is 19 (by simp)).1
  have x6 : World.cell? W11 ⟨g, 20, none⟩ = some (.slice (p 11) 0 (s 11)) := (X.out.1.is 20 (by simp)).1
  go_wp2_with fail
  refine Calls.mono (heldStringS_nil _ _ _ _) ?_
  rintro e W12 ⟨rfl, hb⟩
  replace X : Hid (Box W12 g [.int .i64 1, .int .i64 2, .int .i64 3, .slice (p 0) 0 (s 0), .slice (p 1) 0 (s 1), .slice (p 2) 0 (s 2), .slice (p 3) 0 (s 3), .int .i64 4, .int .i64 5, .int .i64 6, .slice (p 4) 0 (s 4), .slice (p 5) 0 (s 5), .slice (p 6) 0 (s 6), .slice (p 7) 0 (s 7), .int .i64 7, .int .i64 8, .int .i64 9, .slice (p 8) 0 (s 8), .slice (p 9) 0 (s 9), .slice (p 10) 0 (s 10), .slice (p 11) 0 (s 11)] ∧ Below w.heap.size w W12) := ⟨X.out.1.next hb, X.out.2.trans (hb.mono X.out.2.size)⟩
  clear hb x0 x1 x2 x3 x4 x5 x6
  have x0 : World.cell? W12 ⟨g, 14, none⟩ = some (.int .i64 7) := (X.out.1.is 14 (by simp)).1
  have x1 : World.cell? W12 ⟨g, 15, none⟩ = some (.int .i64 8) := (X.out.1.is 15 (by simp)).1
  have x2 : World.cell? W12 ⟨g, 16, none⟩ = some (.int .i64 9) := (X.out.1.is 16 (by simp)).1
  have x3 : World.cell? W12 ⟨g, 17, none⟩ = some (.slice (p 8) 0 (s 8)) := (X.out.1.is 17 (by simp)).1
  have x4 : World.cell? W12 ⟨g, 18, none⟩ = some (.slice (p 9) 0 (s 9)) := (X.out.1.is 18 (by simp)).1
  have x5 : World.cell? W12 ⟨g, 19, none⟩ = some (.slice (p 10) 0 (s 10)) := (X.out.1.is 19 (by simp)).1
  have x6 : World.cell? W12 ⟨g, 20, none⟩ = some (.slice (p 11) 0 (s 11)) := (X.out.1.is 20 (by simp)).1
  go_wp2
  clear x0 x1 x2 x3 x4 x5 x6
  rw [rounds_succ]
  go_wp2
  go_ret
  exact ⟨rfl, X.out.2⟩

set_option maxHeartbeats 2000000 in
theorem markBoolS_three (g c : Nat) (x y z : Bool) (w : World) (h : Box w g (bs3 x y z)) :
    Calls Try.prog 46 #[.slice (some ⟨g, 0, none⟩) 3 c, .int .i64 10] w fun e w' => e = .returned (.int .i64 13) ∧ Box w' g (bs3 false false true) ∧ Kp (· = g) w w' := by
  obtain ⟨a0, a1, a2⟩ := h.c3
  obtain ⟨f0, f1, f2⟩ := h.f3
  have X : Hid (Box w g (bs3 x y z)) := h
  clear h
  go_enter Try.func46, Try.ntmps46
  go_wp2
  refine wp_loop_rounds 4 ?_
  repeat (rw [rounds_succ]; go_wp2)
  go_ret
  exact ⟨rfl, X.out.s3, (Kp.rf _ _).st.st.st⟩
set_option maxHeartbeats 2000000 in
theorem heldBoolS_three (g c : Nat) (w : World) (h : Box w g (bs3 false false true)) :
    Calls Try.prog 52 #[.slice (some ⟨g, 0, none⟩) 3 c, .int .i64 10] w fun e w' => e = .returned (.int .i64 13) ∧ Below w.heap.size w w' := by
  obtain ⟨a0, a1, a2⟩ := h.c3
  clear h
  go_enter Try.func52, Try.ntmps52
  go_wp2
  refine wp_loop_rounds 4 ?_
  repeat (rw [rounds_succ]; go_wp2)
  go_ret
  refine ⟨rfl, ?_⟩
  repeat (first | exact Below.refl _ _ | refine Below.drew ?_ | refine below_drewN ?_ _ | refine Below.alloc ?_ (by first | (simp; done) | (simp; omega)) _ | refine Below.setCell ?_ (by first | (simp; done) | (simp; omega)) _)
end Go.Proofs.Ytagmpoakakbeaaa

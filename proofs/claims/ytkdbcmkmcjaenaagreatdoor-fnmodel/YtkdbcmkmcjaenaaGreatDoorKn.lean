/- What an event's writer knew; the keys of a past as an iterator. -/
import Derived.Test.YtkdbcmkmcjaenaaGreatDoorRows
import Derived.WalkKit
import Derived.WalkSpells
import Derived.WalkLawsBesides
import Derived.Deep.QuietTactic
import Derived.BigQuiet
import Derived.Deep.RegionHeld3
import Derived.Test.YtkdbcmkmcjaenaaGreatDoorOb
import Derived.LoopN
import Derived.OwnWalk
namespace Go.Proofs.YtkdbcmkmcjaenaaGreatDoor
open Go.RowKit
set_option linter.unusedSimpArgs false
set_option linter.unusedVariables false

set_option maxHeartbeats 2000000 in
theorem known_ev (m : Ev) (h0 : 0 ≤ m.p) (h3 : m.p < 3) (w : World) : Calls Tryz.prog 59 #[.agg #[.int .i64 m.p, .int .i64 m.n, .int .i64 m.v, .bool m.dead, .string m.key, .int .i64 m.a, .int .i64 m.b, .int .i64 m.c]] w fun e w' => e = .returned (.agg #[.int .i64 (kn m 0), .int .i64 (kn m 1), .int .i64 (kn m 2)]) ∧ Below w.heap.size w w' := by
  obtain ⟨p, n, key, v, dead, a, b, c⟩ := m
  simp only at h0 h3 ⊢
  have hp : p = 0 ∨ p = 1 ∨ p = 2 := by omega
  rcases hp with rfl | rfl | rfl
  all_goals
    go_enter Tryz.func59, Tryz.ntmps59
    go_wp2
  · refine bodyPost_ret (v := .agg #[.int .i64 n, .int .i64 b, .int .i64 c]) (by simp [results, Tryz.results59, go_sem]) rfl ⟨rfl, ?_⟩
    repeat (first | exact Below.refl _ _ | refine Below.drew ?_ | refine below_drewN ?_ _ | refine Below.alloc ?_ (by first | (simp; done) | (simp; omega)) _ | refine Below.setCell ?_ (by first | (simp; done) | (simp; omega)) _)
  · refine bodyPost_ret (v := .agg #[.int .i64 a, .int .i64 n, .int .i64 c]) (by simp [results, Tryz.results59, go_sem]) rfl ⟨rfl, ?_⟩
    repeat (first | exact Below.refl _ _ | refine Below.drew ?_ | refine below_drewN ?_ _ | refine Below.alloc ?_ (by first | (simp; done) | (simp; omega)) _ | refine Below.setCell ?_ (by first | (simp; done) | (simp; omega)) _)
  · refine bodyPost_ret (v := .agg #[.int .i64 a, .int .i64 b, .int .i64 n]) (by simp [results, Tryz.results59, go_sem]) rfl ⟨rfl, ?_⟩
    repeat (first | exact Below.refl _ _ | refine Below.drew ?_ | refine below_drewN ?_ _ | refine Below.alloc ?_ (by first | (simp; done) | (simp; omega)) _ | refine Below.setCell ?_ (by first | (simp; done) | (simp; omega)) _)
set_option maxHeartbeats 1000000 in
theorem keys_fn (b : Nat) (w : World) : Calls Tryz.prog 58 #[.map (some b)] w fun e w' => e = .returned (.func (.func 93) #[] #[.pointer (some ⟨w.heap.size, 0, none⟩)]) ∧ w' = w.alloc (.cells #[.map (some b)] 61) := by
  go_enter Tryz.func58, Tryz.ntmps58
  go_wp2
  go_ret
  exact ⟨rfl, rfl⟩
end Go.Proofs.YtkdbcmkmcjaenaaGreatDoor

/- Objects: their size, and that alike ones are told so. -/
import Derived.Test.YtcmniplbiliobaaDoorRows
import Derived.WalkKit
import Derived.WalkSpells
import Derived.WalkLawsBesides
import Derived.Deep.QuietTactic
import Derived.BigQuiet
import Derived.Deep.RegionHeld3
import Derived.LoopN
import Derived.OwnWalk
import Derived.Laws.StructEq
import Derived.Test.YtcmniplbiliobaaDoorSb
namespace Go.Proofs.YtcmniplbiliobaaDoor
open Go.RowKit
set_option linter.unusedSimpArgs false
set_option linter.unusedVariables false

theorem eqv (a b c x y z : Int) (w : World) : Sem.run Tryd.prog (Op.equalIn 10000 30 (.agg #[.int .i64 a, .int .i64 b, .int .i64 c]) (.agg #[.int .i64 x, .int .i64 y, .int .i64 z])) w = .ok (a == x && (b == y && c == z)) w := by
  have h29 := Tryd.underlying30
  have h3 := Tryd.underlying3
  rw [Op.equalIn]
  simp only [Sem.run_bind, run_underlying h29, Result.andThen_ok, Bool.false_eq_true, if_false]
  simp [go_sem, h3, List.range', List.forIn_cons]
  cases h1 : (a == x) <;> cases h2 : (b == y) <;> cases h3 : (c == z) <;> simp_all [go_sem]

def sibB (x y : Sib) : Bool := x.p == y.p && (x.n == y.n && (x.v == y.v && x.d == y.d))

theorem eqs (x y : Sib) (w : World) : Sem.run Tryd.prog (Op.equalIn 10000 74 (.agg #[.int .i64 x.p, .int .i64 x.n, .int .i64 x.v, .bool x.d]) (.agg #[.int .i64 y.p, .int .i64 y.n, .int .i64 y.v, .bool y.d])) w = .ok (sibB x y) w := by
  have h42 := Tryd.underlying74
  have h40 := Tryd.underlying72
  have h3 := Tryd.underlying3
  have h4 := Tryd.underlying4
  have hs : Tryd.prog.stoodInHeld 74 = false := by kernel_rfl
  have hs' : Tryd.prog.stoodInHeld 72 = false := by kernel_rfl
  have ia : ∀ w, Sem.run Tryd.prog (isAgg 72) w = .ok true w := fun _ => by kernel_rfl
  have sz : ∀ w, Sem.run Tryd.prog (sizeOf 72) w = .ok 2 w := fun _ => by kernel_rfl
  unfold sibB
  rw [run_equalIn_struct w 9999 74 _ _ (by kernel_rfl) hs]
  simp [go_sem, h42, h40, h3, h4, hs', ia, sz]
  cases h1 : (x.p == y.p) <;> cases h2 : (x.n == y.n) <;> cases h3 : (x.v == y.v) <;> cases h4 : (x.d == y.d) <;> simp_all [go_sem]
end Go.Proofs.YtcmniplbiliobaaDoor

/- Arrays of three ints are alike just if they are alike place by place. -/
import Derived.Test.YtcappnoghakdbahRows
import Derived.WalkKit
import Derived.WalkSpells
import Derived.WalkLawsBesides
import Derived.Laws.StructEq
namespace Go.Proofs.Ytcappnoghakdbah
open Go.RowKit
set_option linter.unusedSimpArgs false
theorem eqv (a b c x y z : Int) (w : World) : Sem.run Try.prog (Op.equalIn 10000 24 (.agg #[.int .i64 a, .int .i64 b, .int .i64 c]) (.agg #[.int .i64 x, .int .i64 y, .int .i64 z])) w = .ok (a == x && (b == y && c == z)) w := by
  have h24 := Try.underlying24
  have h3 := Try.underlying3
  rw [Op.equalIn]
  simp only [Sem.run_bind, run_underlying h24, Result.andThen_ok, Bool.false_eq_true, if_false]
  simp [go_sem, h3, List.range', List.forIn_cons]
  cases h1 : (a == x) <;> cases h2 : (b == y) <;> cases h3 : (c == z) <;> simp_all [go_sem]
end Go.Proofs.Ytcappnoghakdbah

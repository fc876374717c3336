/- Objects: their size, and that alike ones are told so. -/
import Derived.Test.YtkecngfblfgjmaaRows
import Derived.WalkKit
import Derived.WalkSpells
import Derived.WalkLawsBesides
import Derived.Deep.QuietTactic
import Derived.BigQuiet
import Derived.Deep.RegionHeld3
import Derived.LoopN
import Derived.OwnWalk
import Derived.Laws.StructEq
import Derived.Test.YtkecngfblfgjmaaSb
namespace Go.Proofs.Ytkecngfblfgjmaa
open Go.RowKit
set_option linter.unusedSimpArgs false
set_option linter.unusedVariables false

set_option maxHeartbeats 1000000 in
theorem szObj_any (cap : Nat) (ao : Option Addr) (l : List Sib) (a b c n : Int) (w : World) (h0 : 0 ≤ n) (hn : n ≤ 1048576) (hm : (l.length : Int) ≤ 9223372036854775807) :
    Calls Try.prog 8 #[.agg #[.slice ao l.length cap, .int .i64 a, .int .i64 b, .int .i64 c], .int .i64 n] w fun e w' => e = .returned (.int .i64 (if (l.length : Int) ≤ n then n - l.length else -1)) ∧ Below w.heap.size w w' := by
  by_cases hle : (l.length : Int) ≤ n
  · have hd : ¬ n - (l.length : Int) < 0 := by omega
    go_enter Try.func8, Try.ntmps8
    go_wp2
    go_ret
    refine ⟨rfl, ?_⟩
    repeat (first | exact Below.refl _ _ | refine Below.drew ?_ | refine below_drewN ?_ _ | refine Below.alloc ?_ (by first | (simp; done) | (simp; omega)) _ | refine Below.setCell ?_ (by first | (simp; done) | (simp; omega)) _)
  · have hd : n - (l.length : Int) < 0 := by omega
    go_enter Try.func8, Try.ntmps8
    go_wp2
    go_ret
    refine ⟨rfl, ?_⟩
    repeat (first | exact Below.refl _ _ | refine Below.drew ?_ | refine below_drewN ?_ _ | refine Below.alloc ?_ (by first | (simp; done) | (simp; omega)) _ | refine Below.setCell ?_ (by first | (simp; done) | (simp; omega)) _)

set_option maxHeartbeats 1000000 in
theorem eqVv_same (a b c : Int) (w : World) :
    Calls Try.prog 27 #[.agg #[.int .i64 a, .int .i64 b, .int .i64 c], .agg #[.int .i64 a, .int .i64 b, .int .i64 c]] w fun e w' => e = .returned (.bool true) ∧ Below w.heap.size w w' := by
  go_enter Try.func27, Try.ntmps27
  go_wp2
  refine wp_loop_rounds 4 ?_
  repeat (rw [rounds_succ]; go_wp2; (try (go_quiet (fail); go_wp2)))
  go_ret
  refine ⟨rfl, ?_⟩
  repeat (first | exact Below.refl _ _ | refine Below.drew ?_ | refine below_drewN ?_ _ | refine Below.alloc ?_ (by first | (simp; done) | (simp; omega)) _ | refine Below.setCell ?_ (by first | (simp; done) | (simp; omega)) _)

set_option maxHeartbeats 1000000 in
theorem eqObj_same (cap cp : Nat) (ao bo : Option Addr) (l : List Sib) (a b c : Int) (w : World) (hm : (l.length : Int) ≤ 1048576) (hr0 : SibRow w ao l) (hs0 : SibRow w bo l) :
    Calls Try.prog 12 #[.agg #[.slice ao l.length cap, .int .i64 a, .int .i64 b, .int .i64 c], .agg #[.slice bo l.length cp, .int .i64 a, .int .i64 b, .int .i64 c]] w fun e w' => e = .returned (.bool true) ∧ Below w.heap.size w w' := by
  have hb0 : Hid (∀ o1 o2, Below w.heap.size w ((w.alloc o1).alloc o2)) := fun o1 o2 => ((Below.refl _ _).alloc (Nat.le_refl _) _).alloc (by simp) _
  have hr : Hid (SibRow w ao l) := hr0
  have hs : Hid (SibRow w bo l) := hs0
  clear hr0 hs0
  go_enter Try.func12, Try.ntmps12
  go_wp2_with fail
  refine (eqSibs_same cap cp ao bo l _ hm (hr.out.next (hb0.out _ _)) (hs.out.next (hb0.out _ _))).mono ?_
  rintro e w1 ⟨rfl, hb⟩
  have hB : Hid (Below w.heap.size w w1) := (hb0.out _ _).trans (hb.mono (by simp; omega))
  obtain ⟨hc, hf⟩ := bcell hb
  clear hb hb0
  go_wp2_with fail
  refine (eqVv_same a b c _).mono ?_
  rintro e w2 ⟨rfl, hb⟩
  go_wp2
  go_ret
  exact ⟨rfl, hB.out.trans (hb.mono hB.out.size)⟩

theorem eqv (a b c x y z : Int) (w : World) : Sem.run Try.prog (Op.equalIn 10000 36 (.agg #[.int .i64 a, .int .i64 b, .int .i64 c]) (.agg #[.int .i64 x, .int .i64 y, .int .i64 z])) w = .ok (a == x && (b == y && c == z)) w := by
  have h29 := Try.underlying36
  have h3 := Try.underlying3
  rw [Op.equalIn]
  simp only [Sem.run_bind, run_underlying h29, Result.andThen_ok, Bool.false_eq_true, if_false]
  simp [go_sem, h3, List.range', List.forIn_cons]
  cases h1 : (a == x) <;> cases h2 : (b == y) <;> cases h3 : (c == z) <;> simp_all [go_sem]

def sibB (x y : Sib) : Bool := x.p == y.p && (x.n == y.n && (x.v == y.v && x.d == y.d))

theorem eqs (x y : Sib) (w : World) : Sem.run Try.prog (Op.equalIn 10000 48 (.agg #[.int .i64 x.p, .int .i64 x.n, .int .i64 x.v, .bool x.d]) (.agg #[.int .i64 y.p, .int .i64 y.n, .int .i64 y.v, .bool y.d])) w = .ok (sibB x y) w := by
  have h42 := Try.underlying48
  have h40 := Try.underlying26
  have h3 := Try.underlying3
  have h4 := Try.underlying4
  have hs : Try.prog.stoodInHeld 48 = false := by kernel_rfl
  have hs' : Try.prog.stoodInHeld 26 = false := by kernel_rfl
  have ia : ∀ w, Sem.run Try.prog (isAgg 26) w = .ok true w := fun _ => by kernel_rfl
  have sz : ∀ w, Sem.run Try.prog (sizeOf 26) w = .ok 2 w := fun _ => by kernel_rfl
  unfold sibB
  rw [run_equalIn_struct w 9999 48 _ _ (by kernel_rfl) hs]
  simp [go_sem, h42, h40, h3, h4, hs', ia, sz]
  cases h1 : (x.p == y.p) <;> cases h2 : (x.n == y.n) <;> cases h3 : (x.v == y.v) <;> cases h4 : (x.d == y.d) <;> simp_all [go_sem]
end Go.Proofs.Ytkecngfblfgjmaa

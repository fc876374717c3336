/- An event that is right by itself; lists of events that are right. -/
import Derived.Test.YtkdbcmkmcjaenaaGreatDoorRows
import Derived.WalkKit
import Derived.WalkSpells
import Derived.WalkLawsBesides
import Derived.Deep.QuietTactic
import Derived.BigQuiet
import Derived.Deep.RegionHeld3
import Derived.Test.YtkdbcmkmcjaenaaGreatDoorKy
import Derived.Test.YtkdbcmkmcjaenaaGreatDoorZk
import Derived.LoopN
import Derived.OwnWalk
import Derived.Laws.StructEq
namespace Go.Proofs.YtkdbcmkmcjaenaaGreatDoor
open Go.RowKit
set_option linter.unusedSimpArgs false
set_option linter.unusedVariables false

/-- A call answers whether P holds. -/
def Told (P : Prop) (w : World) (e : Ending) (w' : World) : Prop := ∃ r : Bool, e = .returned (.bool r) ∧ (r = true ↔ P) ∧ Below w.heap.size w w'
theorem bool_of (P : Prop) : ∃ b : Bool, b = true ↔ P := by
  by_cases h : P
  · exact ⟨true, by simp [h]⟩
  · exact ⟨false, by simp [h]⟩
def valP (v : Int) (d : Bool) : Prop := (0 ≤ v ∧ v ≤ 999) ∧ (d = true → v = 0)
/-- An event is right by itself. -/
def evP (e : Ev) : Prop := dotB e.p e.n = true ∧ keyP e.key ∧ valP e.v e.dead ∧ vvB e.a e.b e.c = true
/-- Each is its node's next one, and knows none but of those ahead. -/
def stepP (x y z : Int) (e : Ev) : Prop := e.n = comp x y z e.p + 1 ∧ (e.a ≤ x ∧ e.b ≤ y ∧ e.c ≤ z)
def eokL : Int → Int → Int → List Ev → Prop
  | _, _, _, [] => True
  | x, y, z, e :: l => (evP e ∧ stepP x y z e) ∧ eokL (upd e.p e.n 0 x) (upd e.p e.n 1 y) (upd e.p e.n 2 z) l
/-- A list of events is right. -/
def eok (l : List Ev) : Prop := l.length ≤ 100 ∧ eokL 0 0 0 l
theorem eokL_drop {x y z : Int} {l : List Ev} {k : Nat} (h : k < l.length) : eokL x y z (l.drop k) ↔ (evP l[k] ∧ stepP x y z l[k]) ∧ eokL (upd l[k].p l[k].n 0 x) (upd l[k].p l[k].n 1 y) (upd l[k].p l[k].n 2 z) (l.drop (k + 1)) := by
  rw [List.drop_eq_getElem_cons h]
  rfl
theorem eokL_no {x y z : Int} {l : List Ev} {k : Nat} (hk : k < l.length) (hg : eokL 0 0 0 l ↔ eokL x y z (l.drop k)) (h : ¬ (evP l[k] ∧ stepP x y z l[k])) : ¬ eok l := fun q => h ((eokL_drop hk).1 (hg.1 q.2)).1
theorem eokL_yes {x y z : Int} {l : List Ev} {k : Nat} (hk : k < l.length) (hg : eokL 0 0 0 l ↔ eokL x y z (l.drop k)) (h : evP l[k] ∧ stepP x y z l[k]) : eokL 0 0 0 l ↔ eokL (upd l[k].p l[k].n 0 x) (upd l[k].p l[k].n 1 y) (upd l[k].p l[k].n 2 z) (l.drop (k + 1)) := by
  rw [hg, eokL_drop hk]
  exact ⟨fun q => q.2, fun q => ⟨h, q⟩⟩
theorem eokL_end {x y z : Int} {l : List Ev} {k : Nat} (hk : l.length ≤ k) (hg : eokL 0 0 0 l ↔ eokL x y z (l.drop k)) : eokL 0 0 0 l := by
  rw [hg, List.drop_of_length_le hk]
  trivial
set_option maxHeartbeats 400000 in
theorem val2_any (v : Int) (d b : Bool) (hb : Hid (b = true ↔ valP v d)) (w : World) :
    Calls Tryz.prog 56 #[.int .i64 v, .bool d] w fun e w' => e = .returned (.bool b) ∧ w' = w := by
  cases d
  · by_cases h1 : 0 ≤ v
    · by_cases h2 : v ≤ 999
      · have HB : Hid (b = true) := hb.out.2 ⟨⟨h1, h2⟩, fun h => by cases h⟩
        go_enter Tryz.func56, Tryz.ntmps56
        go_wp2
        go_ret
        exact ⟨ret_bool HB.out.symm, rfl⟩
      · have HB : Hid (b = false) := by have := hb.out; cases b; rfl; exact (h2 (this.1 rfl).1.2).elim
        go_enter Tryz.func56, Tryz.ntmps56
        go_wp2
        go_ret
        exact ⟨ret_bool HB.out.symm, rfl⟩
    · have HB : Hid (b = false) := by have := hb.out; cases b; rfl; exact (h1 (this.1 rfl).1.1).elim
      go_enter Tryz.func56, Tryz.ntmps56
      go_wp2
      go_ret
      exact ⟨ret_bool HB.out.symm, rfl⟩
  · by_cases h1 : v = 0
    · have HB : Hid (b = true) := hb.out.2 ⟨by omega, fun _ => h1⟩
      subst h1
      go_enter Tryz.func56, Tryz.ntmps56
      go_wp2
      go_ret
      exact ⟨ret_bool HB.out.symm, rfl⟩
    · have HB : Hid (b = false) := by have := hb.out; cases b; rfl; exact (h1 ((this.1 rfl).2 rfl)).elim
      have h1' : (v == 0) = false := beq_eq_false_iff_ne.2 h1
      go_enter Tryz.func56, Tryz.ntmps56
      go_wp2
      go_ret
      exact ⟨ret_bool HB.out.symm, rfl⟩

set_option maxRecDepth 20000 in
set_option maxHeartbeats 2000000 in
theorem eventOK_any (x : Ev) (w : World) (hks : x.key.size < 1099511627776) :
    Calls Tryz.prog 23 #[.agg #[.int .i64 x.p, .int .i64 x.n, .string x.key, .int .i64 x.v, .bool x.dead, .int .i64 x.a, .int .i64 x.b, .int .i64 x.c]] w (Told (evP x) w) := by
  obtain ⟨bk, hbk⟩ := bool_of (keyP x.key)
  obtain ⟨bv, hbv⟩ := bool_of (valP x.v x.dead)
  have HK : Hid (bk = true ↔ keyP x.key) := hbk
  have HV : Hid (bv = true ↔ valP x.v x.dead) := hbv
  clear hbk hbv
  go_enter Tryz.func23, Tryz.ntmps23
  go_upto_region 1 with fail
  refine wp_gen (fun W => Box W w.heap.size [.int .i64 x.p, .int .i64 x.n, .string x.key, .int .i64 x.v, .bool x.dead, .int .i64 x.a, .int .i64 x.b, .int .i64 x.c] ∧ Below w.heap.size w W) ⟨box_mk, bel_alloc _ _⟩ (fun W0 hI => ?_)
  have Y : Hid (Box W0 w.heap.size [.int .i64 x.p, .int .i64 x.n, .string x.key, .int .i64 x.v, .bool x.dead, .int .i64 x.a, .int .i64 x.b, .int .i64 x.c] ∧ Below w.heap.size w W0) := hI
  clear hI
  obtain ⟨a0, a1, a2, a3, a4, a5, a6, a7⟩ := Y.out.1.c8
  go_wp2_with fail
  refine (impl_dot x.p x.n _).mono ?_
  rintro e W1 ⟨rfl, hb⟩
  replace Y : Hid (Box W1 w.heap.size [.int .i64 x.p, .int .i64 x.n, .string x.key, .int .i64 x.v, .bool x.dead, .int .i64 x.a, .int .i64 x.b, .int .i64 x.c] ∧ Below w.heap.size w W1) := ⟨Y.out.1.next hb, Y.out.2.trans (hb.mono Y.out.2.size)⟩
  clear hb a0 a1 a2 a3 a4 a5 a6 a7
  obtain ⟨a0, a1, a2, a3, a4, a5, a6, a7⟩ := Y.out.1.c8
  cases hd : dotB x.p x.n
  case false =>
    have HN : Hid (¬ evP x) := fun h => by rw [h.1] at hd; cases hd
    clear hd HK HV
    go_wp2
    go_ret
    exact ⟨false, rfl, by simp [HN.out], Y.out.2⟩
  have HD : Hid (dotB x.p x.n = true) := hd
  clear hd
  go_wp2_with fail
  refine (implKey_any x.key bk HK.out _ hks).mono ?_
  rintro e w1 ⟨rfl, rfl⟩
  cases bk
  case false =>
    have HN : Hid (¬ evP x) := fun h => by have := HK.out.2 h.2.1; cases this
    clear HK HV HD
    go_wp2
    go_ret
    exact ⟨false, rfl, by simp [HN.out], Y.out.2⟩
  have HKt : Hid (keyP x.key) := HK.out.1 rfl
  clear HK
  go_wp2_with fail
  refine (val2_any x.v x.dead bv HV _).mono ?_
  rintro e w1 ⟨rfl, rfl⟩
  cases bv
  case false =>
    have HN : Hid (¬ evP x) := fun h => by have := HV.out.2 h.2.2.1; cases this
    clear HV HKt HD
    go_wp2
    go_ret
    exact ⟨false, rfl, by simp [HN.out], Y.out.2⟩
  have HVt : Hid (valP x.v x.dead) := HV.out.1 rfl
  clear HV
  go_wp2_with fail
  refine (impl_vv x.a x.b x.c _).mono ?_
  rintro e W2 ⟨rfl, hb⟩
  have hB : Hid (Below w.heap.size w W2) := Y.out.2.trans (hb.mono Y.out.2.size)
  clear hb a0 a1 a2 a3 a4 a5 a6 a7 Y
  have HR : Hid (vvB x.a x.b x.c = true ↔ evP x) := ⟨fun h => ⟨HD.out, HKt.out, HVt.out, h⟩, fun h => h.2.2.2⟩
  generalize vvB x.a x.b x.c = r at *
  clear HD HKt HVt
  cases r
  · have HN : Hid (¬ evP x) := fun h => by have := HR.out.2 h; cases this
    clear HR
    go_wp2
    go_ret
    exact ⟨false, rfl, by simp [HN.out], hB.out⟩
  · have HN : Hid (evP x) := HR.out.1 rfl
    clear HR
    go_wp2
    go_ret
    exact ⟨true, rfl, by simp [HN.out], hB.out⟩
theorem eqv (a b c x y z : Int) (w : World) : Sem.run Tryz.prog (Op.equalIn 10000 32 (.agg #[.int .i64 a, .int .i64 b, .int .i64 c]) (.agg #[.int .i64 x, .int .i64 y, .int .i64 z])) w = .ok (a == x && (b == y && c == z)) w := by
  have h24 := Tryz.underlying32
  have h3 := Tryz.underlying3
  rw [Op.equalIn]
  simp only [Sem.run_bind, run_underlying h24, Result.andThen_ok, Bool.false_eq_true, if_false]
  simp [go_sem, h3, List.range', List.forIn_cons]
  cases h1 : (a == x) <;> cases h2 : (b == y) <;> cases h3 : (c == z) <;> simp_all [go_sem]
end Go.Proofs.YtkdbcmkmcjaenaaGreatDoor

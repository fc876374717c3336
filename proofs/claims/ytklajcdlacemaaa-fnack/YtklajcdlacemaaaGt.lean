/- Takeover of both sides. -/
import Derived.Test.YtklajcdlacemaaaRows
import Derived.WalkKit
import Derived.WalkSpells
import Derived.WalkLawsBesides
import Derived.Deep.QuietTactic
import Derived.BigQuiet
import Derived.Deep.RegionHeld3
import Derived.Test.YtklajcdlacemaaaGc
import Derived.LoopN
namespace Go.Proofs.Ytklajcdlacemaaa
open Go.RowKit
set_option linter.unusedSimpArgs false
set_option linter.unusedVariables false

theorem gok_bounds {e o a b c : Int} {l : List Dt} (h : gokB e o a b c l = true) : 1 ≤ e ∧ e ≤ 1000000 ∧ 0 ≤ o ∧ o < 3 ∧ vvB a b c = true ∧ l.length ≤ 4096 := by
  simp only [gokB, Bool.and_eq_true, decide_eq_true_eq] at h
  exact ⟨h.1.1, h.1.2, h.2.1.1, h.2.1.2, h.2.2.1, h.2.2.2.1⟩

set_option maxRecDepth 20000 in
set_option maxHeartbeats 2000000 in
theorem specT_bad (lo q : Nat) (p : Option Addr) (l : List Dt) (e o a b c ow : Int) (w : World) (hl : (l.length : Int) ≤ 1048576) (hr0 : GRow lo w p (flatD l)) (hg : gokB e o a b c l = false) :
    Calls Try.prog 23 #[.agg #[.int .i64 e, .int .i64 o, .int .i64 a, .int .i64 b, .int .i64 c, .slice p l.length q], .int .i64 ow] w fun r w' => ∃ po co, r = .returned (.tuple #[.agg #[.int .i64 0, .int .i64 0, .int .i64 0, .int .i64 0, .int .i64 0, .slice po 0 co], .int .i64 1]) ∧ MR w.heap.size w' po [] ∧ Below w.heap.size w w' := by
  have hr : Hid (GRow lo w p (flatD l)) := hr0
  clear hr0
  go_enter Try.func23, Try.ntmps23
  go_upto_region 1 with fail
  refine wp_gen (fun W => Box W w.heap.size [.int .i64 e, .int .i64 o, .int .i64 a, .int .i64 b, .int .i64 c, .slice p l.length q] ∧ Box W (w.heap.size + 1) [.int .i64 0, .int .i64 0, .int .i64 0, .int .i64 0, .int .i64 0, .slice none 0 0] ∧ Below w.heap.size w W) ⟨box_mk.alloc, ?_, (bel_alloc _ _).trans ((bel_alloc _ _).mono (by simp))⟩ (fun W0 hI => ?_)
  · have := box_mk (W := w.alloc (.cells #[.int .i64 e, .int .i64 o, .int .i64 a, .int .i64 b, .int .i64 c, .slice p l.length q] 27)) (t := 27) (vs := [.int .i64 0, .int .i64 0, .int .i64 0, .int .i64 0, .int .i64 0, .slice none 0 0])
    simpa using this
  have Y : Hid _ := hI
  clear hI
  obtain ⟨a0, a1, a2, a3, a4, a5⟩ := Y.out.1.c6
  go_wp2_with fail
  refine (specG_any lo q p l e o a b c _ hl (hr.out.next Y.out.2.2)).mono ?_
  rintro e1 W1 ⟨rfl, hb⟩
  replace Y : Hid (Box W1 w.heap.size [.int .i64 e, .int .i64 o, .int .i64 a, .int .i64 b, .int .i64 c, .slice p l.length q] ∧ Box W1 (w.heap.size + 1) [.int .i64 0, .int .i64 0, .int .i64 0, .int .i64 0, .int .i64 0, .slice none 0 0] ∧ Below w.heap.size w W1) := ⟨Y.out.1.next hb, Y.out.2.1.next hb, Y.out.2.2.trans (hb.mono Y.out.2.2.size)⟩
  clear hb a0 a1 a2 a3 a4 a5
  rw [hg]
  obtain ⟨b0, b1, b2, b3, b4, b5⟩ := Y.out.2.1.c6
  obtain ⟨f0, f1, f2, f3, f4, f5⟩ := Y.out.2.1.f6
  go_wp2_with fail
  clear b0 b1 b2 b3 b4 b5 f0 f1 f2 f3 f4 f5
  have Z := Y.out.2.1.s6 (u0 := .int .i64 0) (u1 := .int .i64 0) (u2 := .int .i64 0) (u3 := .int .i64 0) (u4 := .int .i64 0) (u5 := .slice none 0 0)
  obtain ⟨z0, z1, z2, z3, z4, z5⟩ := Z.c6
  clear Z
  refine bodyPost_ret (v := .tuple #[.agg #[.int .i64 0, .int .i64 0, .int .i64 0, .int .i64 0, .int .i64 0, .slice none 0 0], .int .i64 1]) (by simp [results, Try.results23, go_sem, z0, z1, z2, z3, z4, z5]) rfl ⟨_, _, rfl, ?_, ?_⟩
  · exact MR.nil _ _ _
  · exact bel_in (bel_in (bel_in (bel_in (bel_in (bel_in Y.out.2.2 (by omega)) (by omega)) (by omega)) (by omega)) (by omega)) (by omega)

set_option maxRecDepth 20000 in
set_option maxHeartbeats 2000000 in
theorem specT_range (lo q : Nat) (p : Option Addr) (l : List Dt) (e o a b c ow : Int) (w : World) (hl : (l.length : Int) ≤ 1048576) (hr0 : GRow lo w p (flatD l)) (hg : gokB e o a b c l = true) (ho : decide (0 ≤ ow ∧ ow < 3) = false) :
    Calls Try.prog 23 #[.agg #[.int .i64 e, .int .i64 o, .int .i64 a, .int .i64 b, .int .i64 c, .slice p l.length q], .int .i64 ow] w fun r w' => ∃ po co, r = .returned (.tuple #[.agg #[.int .i64 0, .int .i64 0, .int .i64 0, .int .i64 0, .int .i64 0, .slice po 0 co], .int .i64 4]) ∧ MR w.heap.size w' po [] ∧ Below w.heap.size w w' := by
  have hr : Hid (GRow lo w p (flatD l)) := hr0
  clear hr0
  go_enter Try.func23, Try.ntmps23
  go_upto_region 1 with fail
  refine wp_gen (fun W => Box W w.heap.size [.int .i64 e, .int .i64 o, .int .i64 a, .int .i64 b, .int .i64 c, .slice p l.length q] ∧ Box W (w.heap.size + 1) [.int .i64 0, .int .i64 0, .int .i64 0, .int .i64 0, .int .i64 0, .slice none 0 0] ∧ Below w.heap.size w W) ⟨box_mk.alloc, ?_, (bel_alloc _ _).trans ((bel_alloc _ _).mono (by simp))⟩ (fun W0 hI => ?_)
  · have := box_mk (W := w.alloc (.cells #[.int .i64 e, .int .i64 o, .int .i64 a, .int .i64 b, .int .i64 c, .slice p l.length q] 27)) (t := 27) (vs := [.int .i64 0, .int .i64 0, .int .i64 0, .int .i64 0, .int .i64 0, .slice none 0 0])
    simpa using this
  have Y : Hid _ := hI
  clear hI
  obtain ⟨a0, a1, a2, a3, a4, a5⟩ := Y.out.1.c6
  go_wp2_with fail
  refine (specG_any lo q p l e o a b c _ hl (hr.out.next Y.out.2.2)).mono ?_
  rintro e1 W1 ⟨rfl, hb⟩
  replace Y : Hid (Box W1 w.heap.size [.int .i64 e, .int .i64 o, .int .i64 a, .int .i64 b, .int .i64 c, .slice p l.length q] ∧ Box W1 (w.heap.size + 1) [.int .i64 0, .int .i64 0, .int .i64 0, .int .i64 0, .int .i64 0, .slice none 0 0] ∧ Below w.heap.size w W1) := ⟨Y.out.1.next hb, Y.out.2.1.next hb, Y.out.2.2.trans (hb.mono Y.out.2.2.size)⟩
  clear hb a0 a1 a2 a3 a4 a5
  rw [hg]
  go_wp2_with fail
  refine (l01Node_any ow _).mono ?_
  rintro e1 w1 ⟨rfl, h9⟩
  rw [h9, ho]
  clear h9 w1
  obtain ⟨b0, b1, b2, b3, b4, b5⟩ := Y.out.2.1.c6
  obtain ⟨f0, f1, f2, f3, f4, f5⟩ := Y.out.2.1.f6
  go_wp2_with fail
  clear b0 b1 b2 b3 b4 b5 f0 f1 f2 f3 f4 f5
  have Z := Y.out.2.1.s6 (u0 := .int .i64 0) (u1 := .int .i64 0) (u2 := .int .i64 0) (u3 := .int .i64 0) (u4 := .int .i64 0) (u5 := .slice none 0 0)
  obtain ⟨z0, z1, z2, z3, z4, z5⟩ := Z.c6
  clear Z
  refine bodyPost_ret (v := .tuple #[.agg #[.int .i64 0, .int .i64 0, .int .i64 0, .int .i64 0, .int .i64 0, .slice none 0 0], .int .i64 4]) (by simp [results, Try.results23, go_sem, z0, z1, z2, z3, z4, z5]) rfl ⟨_, _, rfl, ?_, ?_⟩
  · exact MR.nil _ _ _
  · exact bel_in (bel_in (bel_in (bel_in (bel_in (bel_in Y.out.2.2 (by omega)) (by omega)) (by omega)) (by omega)) (by omega)) (by omega)

set_option maxRecDepth 20000 in
set_option maxHeartbeats 2000000 in
theorem specT_many (lo q : Nat) (p : Option Addr) (l : List Dt) (e o a b c ow : Int) (w : World) (hl : (l.length : Int) ≤ 1048576) (hr0 : GRow lo w p (flatD l)) (hg : gokB e o a b c l = true) (ho : decide (0 ≤ ow ∧ ow < 3) = true) (he : e = 1000000) :
    Calls Try.prog 23 #[.agg #[.int .i64 e, .int .i64 o, .int .i64 a, .int .i64 b, .int .i64 c, .slice p l.length q], .int .i64 ow] w fun r w' => ∃ po co, r = .returned (.tuple #[.agg #[.int .i64 1000000, .int .i64 o, .int .i64 a, .int .i64 b, .int .i64 c, .slice po l.length co], .int .i64 6]) ∧ MR w.heap.size w' po l ∧ Below w.heap.size w w' := by
  subst he
  have hr : Hid (GRow lo w p (flatD l)) := hr0
  clear hr0
  go_enter Try.func23, Try.ntmps23
  go_upto_region 1 with fail
  refine wp_gen (fun W => Box W w.heap.size [.int .i64 1000000, .int .i64 o, .int .i64 a, .int .i64 b, .int .i64 c, .slice p l.length q] ∧ Box W (w.heap.size + 1) [.int .i64 0, .int .i64 0, .int .i64 0, .int .i64 0, .int .i64 0, .slice none 0 0] ∧ Below w.heap.size w W) ⟨box_mk.alloc, ?_, (bel_alloc _ _).trans ((bel_alloc _ _).mono (by simp))⟩ (fun W0 hI => ?_)
  · have := box_mk (W := w.alloc (.cells #[.int .i64 1000000, .int .i64 o, .int .i64 a, .int .i64 b, .int .i64 c, .slice p l.length q] 27)) (t := 27) (vs := [.int .i64 0, .int .i64 0, .int .i64 0, .int .i64 0, .int .i64 0, .slice none 0 0])
    simpa using this
  have Y : Hid _ := hI
  clear hI
  obtain ⟨a0, a1, a2, a3, a4, a5⟩ := Y.out.1.c6
  go_wp2_with fail
  refine (specG_any lo q p l 1000000 o a b c _ hl (hr.out.next Y.out.2.2)).mono ?_
  rintro e1 W1 ⟨rfl, hb⟩
  replace Y : Hid (Box W1 w.heap.size [.int .i64 1000000, .int .i64 o, .int .i64 a, .int .i64 b, .int .i64 c, .slice p l.length q] ∧ Box W1 (w.heap.size + 1) [.int .i64 0, .int .i64 0, .int .i64 0, .int .i64 0, .int .i64 0, .slice none 0 0] ∧ Below w.heap.size w W1) := ⟨Y.out.1.next hb, Y.out.2.1.next hb, Y.out.2.2.trans (hb.mono Y.out.2.2.size)⟩
  clear hb a0 a1 a2 a3 a4 a5
  rw [hg]
  go_wp2_with fail
  refine (l01Node_any ow _).mono ?_
  rintro e1 w1 ⟨rfl, h9⟩
  rw [h9, ho]
  clear h9 w1
  obtain ⟨a0, a1, a2, a3, a4, a5⟩ := Y.out.1.c6
  go_wp2_with fail
  refine (own_any lo q p l 1000000 o a b c _ (by omega) (hr.out.next Y.out.2.2)).mono ?_
  rintro e1 W2 ⟨po, co, rfl, hO, hb⟩
  have Y1 : Hid (Box W2 (w.heap.size + 1) [.int .i64 0, .int .i64 0, .int .i64 0, .int .i64 0, .int .i64 0, .slice none 0 0] ∧ Below w.heap.size w W2 ∧ OwnG W2 31 2 (.slice po l.length co) l.length (flatD l) W1.heap.size ∧ w.heap.size + 1 < W1.heap.size) := ⟨Y.out.2.1.next hb, Y.out.2.2.trans (hb.mono Y.out.2.2.size), hO, Y.out.2.1.lt⟩
  clear hb hO a0 a1 a2 a3 a4 a5 Y
  generalize W1.heap.size = lv at *
  obtain ⟨b0, b1, b2, b3, b4, b5⟩ := Y1.out.1.c6
  obtain ⟨f0, f1, f2, f3, f4, f5⟩ := Y1.out.1.f6
  go_wp2_with fail
  clear b0 b1 b2 b3 b4 b5 f0 f1 f2 f3 f4 f5
  have hlt := Y1.out.2.2.2
  have q0 : ∀ k, (Value.slice po l.length co).ownBlock = some k → ¬ k = w.heap.size + 1 := fun k hk => by have := Y1.out.2.2.1.ge k hk; omega
  have Z := Y1.out.1.s6 (u0 := .int .i64 1000000) (u1 := .int .i64 o) (u2 := .int .i64 a) (u3 := .int .i64 b) (u4 := .int .i64 c) (u5 := .slice po l.length co)
  obtain ⟨z0, z1, z2, z3, z4, z5⟩ := Z.c6
  clear Z
  refine bodyPost_ret (v := .tuple #[.agg #[.int .i64 1000000, .int .i64 o, .int .i64 a, .int .i64 b, .int .i64 c, .slice po l.length co], .int .i64 6]) (by simp [results, Try.results23, go_sem, z0, z1, z2, z3, z4, z5]) rfl ⟨_, _, rfl, ?_, ?_⟩
  · exact (OwnG.mr (((((((Y1.out.2.2.1.kp Kp.set q0).kp Kp.set q0).kp Kp.set q0).kp Kp.set q0).kp Kp.set q0).kp Kp.set q0))).weak (by omega)
  · exact bel_in (bel_in (bel_in (bel_in (bel_in (bel_in Y1.out.2.1 (by omega)) (by omega)) (by omega)) (by omega)) (by omega)) (by omega)

set_option maxRecDepth 20000 in
set_option maxHeartbeats 2000000 in
theorem specT_ok (lo q : Nat) (p : Option Addr) (l : List Dt) (e o a b c ow : Int) (w : World) (hl : (l.length : Int) ≤ 1048576) (hr0 : GRow lo w p (flatD l)) (hg : gokB e o a b c l = true) (ho : decide (0 ≤ ow ∧ ow < 3) = true) (he : e ≠ 1000000) :
    Calls Try.prog 23 #[.agg #[.int .i64 e, .int .i64 o, .int .i64 a, .int .i64 b, .int .i64 c, .slice p l.length q], .int .i64 ow] w fun r w' => ∃ po co, r = .returned (.tuple #[.agg #[.int .i64 (e + 1), .int .i64 ow, .int .i64 a, .int .i64 b, .int .i64 c, .slice po l.length co], .int .i64 0]) ∧ MR w.heap.size w' po l ∧ Below w.heap.size w w' := by
  have hbd : Hid _ := gok_bounds hg
  have he1 : (e == 1000000) = false := beq_eq_false_iff_ne.2 he
  have he2 : ¬ (1000000 : Int) ≤ e := by have := hbd.out; omega
  have he3 : IntKind.i64.wrap (e + 1) = e + 1 := by rw [IntKind.wrap_i64]; have := hbd.out; omega
  have hr : Hid (GRow lo w p (flatD l)) := hr0
  clear hr0
  go_enter Try.func23, Try.ntmps23
  go_upto_region 1 with fail
  refine wp_gen (fun W => Box W w.heap.size [.int .i64 e, .int .i64 o, .int .i64 a, .int .i64 b, .int .i64 c, .slice p l.length q] ∧ Box W (w.heap.size + 1) [.int .i64 0, .int .i64 0, .int .i64 0, .int .i64 0, .int .i64 0, .slice none 0 0] ∧ Below w.heap.size w W) ⟨box_mk.alloc, ?_, (bel_alloc _ _).trans ((bel_alloc _ _).mono (by simp))⟩ (fun W0 hI => ?_)
  · have := box_mk (W := w.alloc (.cells #[.int .i64 e, .int .i64 o, .int .i64 a, .int .i64 b, .int .i64 c, .slice p l.length q] 27)) (t := 27) (vs := [.int .i64 0, .int .i64 0, .int .i64 0, .int .i64 0, .int .i64 0, .slice none 0 0])
    simpa using this
  have Y : Hid _ := hI
  clear hI
  obtain ⟨a0, a1, a2, a3, a4, a5⟩ := Y.out.1.c6
  go_wp2_with fail
  refine (specG_any lo q p l e o a b c _ hl (hr.out.next Y.out.2.2)).mono ?_
  rintro e1 W1 ⟨rfl, hb⟩
  replace Y : Hid (Box W1 w.heap.size [.int .i64 e, .int .i64 o, .int .i64 a, .int .i64 b, .int .i64 c, .slice p l.length q] ∧ Box W1 (w.heap.size + 1) [.int .i64 0, .int .i64 0, .int .i64 0, .int .i64 0, .int .i64 0, .slice none 0 0] ∧ Below w.heap.size w W1) := ⟨Y.out.1.next hb, Y.out.2.1.next hb, Y.out.2.2.trans (hb.mono Y.out.2.2.size)⟩
  clear hb a0 a1 a2 a3 a4 a5
  rw [hg]
  go_wp2_with fail
  refine (l01Node_any ow _).mono ?_
  rintro e1 w1 ⟨rfl, h9⟩
  rw [h9, ho]
  clear h9 w1
  obtain ⟨a0, a1, a2, a3, a4, a5⟩ := Y.out.1.c6
  obtain ⟨f0, f1, f2, f3, f4, f5⟩ := Y.out.1.f6
  go_upto_region 9 with fail
  have Y2 : Hid (Box ((W1.setCell ⟨w.heap.size, 0, none⟩ (.int .i64 (e + 1))).setCell ⟨w.heap.size, 1, none⟩ (.int .i64 ow)) w.heap.size [.int .i64 (e + 1), .int .i64 ow, .int .i64 a, .int .i64 b, .int .i64 c, .slice p l.length q] ∧ Box ((W1.setCell ⟨w.heap.size, 0, none⟩ (.int .i64 (e + 1))).setCell ⟨w.heap.size, 1, none⟩ (.int .i64 ow)) (w.heap.size + 1) [.int .i64 0, .int .i64 0, .int .i64 0, .int .i64 0, .int .i64 0, .slice none 0 0] ∧ Below w.heap.size w ((W1.setCell ⟨w.heap.size, 0, none⟩ (.int .i64 (e + 1))).setCell ⟨w.heap.size, 1, none⟩ (.int .i64 ow))) := by
    refine ⟨?_, Y.out.2.1.o2 (by omega), bel_in (bel_in Y.out.2.2 (by omega)) (by omega)⟩
    have := (Y.out.1.set (i := 0) (u := .int .i64 (e + 1)) (by simp)).set (i := 1) (u := .int .i64 ow) (by simp)
    simpa using this
  clear a0 a1 a2 a3 a4 a5 f0 f1 f2 f3 f4 f5 Y
  generalize ((W1.setCell ⟨w.heap.size, 0, none⟩ (.int .i64 (e + 1))).setCell ⟨w.heap.size, 1, none⟩ (.int .i64 ow)) = W1 at *
  have Y := Y2
  clear Y2
  obtain ⟨a0, a1, a2, a3, a4, a5⟩ := Y.out.1.c6
  go_wp2_with fail
  refine (own_any lo q p l (e + 1) ow a b c _ (by omega) (hr.out.next Y.out.2.2)).mono ?_
  rintro e1 W2 ⟨po, co, rfl, hO, hb⟩
  have Y1 : Hid (Box W2 (w.heap.size + 1) [.int .i64 0, .int .i64 0, .int .i64 0, .int .i64 0, .int .i64 0, .slice none 0 0] ∧ Below w.heap.size w W2 ∧ OwnG W2 31 2 (.slice po l.length co) l.length (flatD l) W1.heap.size ∧ w.heap.size + 1 < W1.heap.size) := ⟨Y.out.2.1.next hb, Y.out.2.2.trans (hb.mono Y.out.2.2.size), hO, Y.out.2.1.lt⟩
  clear hb hO a0 a1 a2 a3 a4 a5 Y
  generalize W1.heap.size = lv at *
  obtain ⟨b0, b1, b2, b3, b4, b5⟩ := Y1.out.1.c6
  obtain ⟨f0, f1, f2, f3, f4, f5⟩ := Y1.out.1.f6
  go_wp2_with fail
  clear b0 b1 b2 b3 b4 b5 f0 f1 f2 f3 f4 f5
  have hlt := Y1.out.2.2.2
  have q0 : ∀ k, (Value.slice po l.length co).ownBlock = some k → ¬ k = w.heap.size + 1 := fun k hk => by have := Y1.out.2.2.1.ge k hk; omega
  have Z := Y1.out.1.s6 (u0 := .int .i64 (e + 1)) (u1 := .int .i64 ow) (u2 := .int .i64 a) (u3 := .int .i64 b) (u4 := .int .i64 c) (u5 := .slice po l.length co)
  obtain ⟨z0, z1, z2, z3, z4, z5⟩ := Z.c6
  clear Z
  refine bodyPost_ret (v := .tuple #[.agg #[.int .i64 (e + 1), .int .i64 ow, .int .i64 a, .int .i64 b, .int .i64 c, .slice po l.length co], .int .i64 0]) (by simp [results, Try.results23, go_sem, z0, z1, z2, z3, z4, z5]) rfl ⟨_, _, rfl, ?_, ?_⟩
  · exact (OwnG.mr (((((((Y1.out.2.2.1.kp Kp.set q0).kp Kp.set q0).kp Kp.set q0).kp Kp.set q0).kp Kp.set q0).kp Kp.set q0))).weak (by omega)
  · exact bel_in (bel_in (bel_in (bel_in (bel_in (bel_in Y1.out.2.1 (by omega)) (by omega)) (by omega)) (by omega)) (by omega)) (by omega)

set_option maxRecDepth 20000 in
set_option maxHeartbeats 2000000 in
theorem implT_bad (lo q : Nat) (p : Option Addr) (l : List Dt) (e o a b c ow : Int) (w : World) (hl : (l.length : Int) ≤ 1048576) (hr0 : GRow lo w p (flatD l)) (hg : gokB e o a b c l = false) :
    Calls Try.prog 11 #[.agg #[.int .i64 e, .int .i64 o, .int .i64 a, .int .i64 b, .int .i64 c, .slice p l.length q], .int .i64 ow] w fun r w' => ∃ po co, r = .returned (.tuple #[.agg #[.int .i64 0, .int .i64 0, .int .i64 0, .int .i64 0, .int .i64 0, .slice po 0 co], .int .i64 1]) ∧ MR w.heap.size w' po [] ∧ Below w.heap.size w w' := by
  have hr : Hid (GRow lo w p (flatD l)) := hr0
  clear hr0
  go_enter Try.func11, Try.ntmps11
  go_upto_region 1 with fail
  refine wp_gen (fun W => Box W w.heap.size [.int .i64 e, .int .i64 o, .int .i64 a, .int .i64 b, .int .i64 c, .slice p l.length q] ∧ Box W (w.heap.size + 1) [.int .i64 0, .int .i64 0, .int .i64 0, .int .i64 0, .int .i64 0, .slice none 0 0] ∧ Below w.heap.size w W) ⟨box_mk.alloc, ?_, (bel_alloc _ _).trans ((bel_alloc _ _).mono (by simp))⟩ (fun W0 hI => ?_)
  · have := box_mk (W := w.alloc (.cells #[.int .i64 e, .int .i64 o, .int .i64 a, .int .i64 b, .int .i64 c, .slice p l.length q] 27)) (t := 27) (vs := [.int .i64 0, .int .i64 0, .int .i64 0, .int .i64 0, .int .i64 0, .slice none 0 0])
    simpa using this
  have Y : Hid _ := hI
  clear hI
  obtain ⟨a0, a1, a2, a3, a4, a5⟩ := Y.out.1.c6
  go_wp2_with fail
  refine (implG_any lo q p l e o a b c _ hl (hr.out.next Y.out.2.2)).mono ?_
  rintro e1 W1 ⟨rfl, hb⟩
  replace Y : Hid (Box W1 w.heap.size [.int .i64 e, .int .i64 o, .int .i64 a, .int .i64 b, .int .i64 c, .slice p l.length q] ∧ Box W1 (w.heap.size + 1) [.int .i64 0, .int .i64 0, .int .i64 0, .int .i64 0, .int .i64 0, .slice none 0 0] ∧ Below w.heap.size w W1) := ⟨Y.out.1.next hb, Y.out.2.1.next hb, Y.out.2.2.trans (hb.mono Y.out.2.2.size)⟩
  clear hb a0 a1 a2 a3 a4 a5
  rw [hg]
  obtain ⟨b0, b1, b2, b3, b4, b5⟩ := Y.out.2.1.c6
  obtain ⟨f0, f1, f2, f3, f4, f5⟩ := Y.out.2.1.f6
  go_wp2_with fail
  clear b0 b1 b2 b3 b4 b5 f0 f1 f2 f3 f4 f5
  have Z := Y.out.2.1.s6 (u0 := .int .i64 0) (u1 := .int .i64 0) (u2 := .int .i64 0) (u3 := .int .i64 0) (u4 := .int .i64 0) (u5 := .slice none 0 0)
  obtain ⟨z0, z1, z2, z3, z4, z5⟩ := Z.c6
  clear Z
  refine bodyPost_ret (v := .tuple #[.agg #[.int .i64 0, .int .i64 0, .int .i64 0, .int .i64 0, .int .i64 0, .slice none 0 0], .int .i64 1]) (by simp [results, Try.results11, go_sem, z0, z1, z2, z3, z4, z5]) rfl ⟨_, _, rfl, ?_, ?_⟩
  · exact MR.nil _ _ _
  · exact bel_in (bel_in (bel_in (bel_in (bel_in (bel_in Y.out.2.2 (by omega)) (by omega)) (by omega)) (by omega)) (by omega)) (by omega)

set_option maxRecDepth 20000 in
set_option maxHeartbeats 2000000 in
theorem implT_range (lo q : Nat) (p : Option Addr) (l : List Dt) (e o a b c ow : Int) (w : World) (hl : (l.length : Int) ≤ 1048576) (hr0 : GRow lo w p (flatD l)) (hg : gokB e o a b c l = true) (ho : decide (0 ≤ ow ∧ ow < 3) = false) :
    Calls Try.prog 11 #[.agg #[.int .i64 e, .int .i64 o, .int .i64 a, .int .i64 b, .int .i64 c, .slice p l.length q], .int .i64 ow] w fun r w' => ∃ po co, r = .returned (.tuple #[.agg #[.int .i64 0, .int .i64 0, .int .i64 0, .int .i64 0, .int .i64 0, .slice po 0 co], .int .i64 4]) ∧ MR w.heap.size w' po [] ∧ Below w.heap.size w w' := by
  have hr : Hid (GRow lo w p (flatD l)) := hr0
  clear hr0
  go_enter Try.func11, Try.ntmps11
  go_upto_region 1 with fail
  refine wp_gen (fun W => Box W w.heap.size [.int .i64 e, .int .i64 o, .int .i64 a, .int .i64 b, .int .i64 c, .slice p l.length q] ∧ Box W (w.heap.size + 1) [.int .i64 0, .int .i64 0, .int .i64 0, .int .i64 0, .int .i64 0, .slice none 0 0] ∧ Below w.heap.size w W) ⟨box_mk.alloc, ?_, (bel_alloc _ _).trans ((bel_alloc _ _).mono (by simp))⟩ (fun W0 hI => ?_)
  · have := box_mk (W := w.alloc (.cells #[.int .i64 e, .int .i64 o, .int .i64 a, .int .i64 b, .int .i64 c, .slice p l.length q] 27)) (t := 27) (vs := [.int .i64 0, .int .i64 0, .int .i64 0, .int .i64 0, .int .i64 0, .slice none 0 0])
    simpa using this
  have Y : Hid _ := hI
  clear hI
  obtain ⟨a0, a1, a2, a3, a4, a5⟩ := Y.out.1.c6
  go_wp2_with fail
  refine (implG_any lo q p l e o a b c _ hl (hr.out.next Y.out.2.2)).mono ?_
  rintro e1 W1 ⟨rfl, hb⟩
  replace Y : Hid (Box W1 w.heap.size [.int .i64 e, .int .i64 o, .int .i64 a, .int .i64 b, .int .i64 c, .slice p l.length q] ∧ Box W1 (w.heap.size + 1) [.int .i64 0, .int .i64 0, .int .i64 0, .int .i64 0, .int .i64 0, .slice none 0 0] ∧ Below w.heap.size w W1) := ⟨Y.out.1.next hb, Y.out.2.1.next hb, Y.out.2.2.trans (hb.mono Y.out.2.2.size)⟩
  clear hb a0 a1 a2 a3 a4 a5
  rw [hg]
  go_wp2_with fail
  refine (isNode_any ow _).mono ?_
  rintro e1 w1 ⟨rfl, h9⟩
  rw [h9, ho]
  clear h9 w1
  obtain ⟨b0, b1, b2, b3, b4, b5⟩ := Y.out.2.1.c6
  obtain ⟨f0, f1, f2, f3, f4, f5⟩ := Y.out.2.1.f6
  go_wp2_with fail
  clear b0 b1 b2 b3 b4 b5 f0 f1 f2 f3 f4 f5
  have Z := Y.out.2.1.s6 (u0 := .int .i64 0) (u1 := .int .i64 0) (u2 := .int .i64 0) (u3 := .int .i64 0) (u4 := .int .i64 0) (u5 := .slice none 0 0)
  obtain ⟨z0, z1, z2, z3, z4, z5⟩ := Z.c6
  clear Z
  refine bodyPost_ret (v := .tuple #[.agg #[.int .i64 0, .int .i64 0, .int .i64 0, .int .i64 0, .int .i64 0, .slice none 0 0], .int .i64 4]) (by simp [results, Try.results11, go_sem, z0, z1, z2, z3, z4, z5]) rfl ⟨_, _, rfl, ?_, ?_⟩
  · exact MR.nil _ _ _
  · exact bel_in (bel_in (bel_in (bel_in (bel_in (bel_in Y.out.2.2 (by omega)) (by omega)) (by omega)) (by omega)) (by omega)) (by omega)

set_option maxRecDepth 20000 in
set_option maxHeartbeats 2000000 in
theorem implT_many (lo q : Nat) (p : Option Addr) (l : List Dt) (e o a b c ow : Int) (w : World) (hl : (l.length : Int) ≤ 1048576) (hr0 : GRow lo w p (flatD l)) (hg : gokB e o a b c l = true) (ho : decide (0 ≤ ow ∧ ow < 3) = true) (he : e = 1000000) :
    Calls Try.prog 11 #[.agg #[.int .i64 e, .int .i64 o, .int .i64 a, .int .i64 b, .int .i64 c, .slice p l.length q], .int .i64 ow] w fun r w' => ∃ po co, r = .returned (.tuple #[.agg #[.int .i64 1000000, .int .i64 o, .int .i64 a, .int .i64 b, .int .i64 c, .slice po l.length co], .int .i64 6]) ∧ MR w.heap.size w' po l ∧ Below w.heap.size w w' := by
  subst he
  have hr : Hid (GRow lo w p (flatD l)) := hr0
  clear hr0
  go_enter Try.func11, Try.ntmps11
  go_upto_region 1 with fail
  refine wp_gen (fun W => Box W w.heap.size [.int .i64 1000000, .int .i64 o, .int .i64 a, .int .i64 b, .int .i64 c, .slice p l.length q] ∧ Box W (w.heap.size + 1) [.int .i64 0, .int .i64 0, .int .i64 0, .int .i64 0, .int .i64 0, .slice none 0 0] ∧ Below w.heap.size w W) ⟨box_mk.alloc, ?_, (bel_alloc _ _).trans ((bel_alloc _ _).mono (by simp))⟩ (fun W0 hI => ?_)
  · have := box_mk (W := w.alloc (.cells #[.int .i64 1000000, .int .i64 o, .int .i64 a, .int .i64 b, .int .i64 c, .slice p l.length q] 27)) (t := 27) (vs := [.int .i64 0, .int .i64 0, .int .i64 0, .int .i64 0, .int .i64 0, .slice none 0 0])
    simpa using this
  have Y : Hid _ := hI
  clear hI
  obtain ⟨a0, a1, a2, a3, a4, a5⟩ := Y.out.1.c6
  go_wp2_with fail
  refine (implG_any lo q p l 1000000 o a b c _ hl (hr.out.next Y.out.2.2)).mono ?_
  rintro e1 W1 ⟨rfl, hb⟩
  replace Y : Hid (Box W1 w.heap.size [.int .i64 1000000, .int .i64 o, .int .i64 a, .int .i64 b, .int .i64 c, .slice p l.length q] ∧ Box W1 (w.heap.size + 1) [.int .i64 0, .int .i64 0, .int .i64 0, .int .i64 0, .int .i64 0, .slice none 0 0] ∧ Below w.heap.size w W1) := ⟨Y.out.1.next hb, Y.out.2.1.next hb, Y.out.2.2.trans (hb.mono Y.out.2.2.size)⟩
  clear hb a0 a1 a2 a3 a4 a5
  rw [hg]
  go_wp2_with fail
  refine (isNode_any ow _).mono ?_
  rintro e1 w1 ⟨rfl, h9⟩
  rw [h9, ho]
  clear h9 w1
  obtain ⟨a0, a1, a2, a3, a4, a5⟩ := Y.out.1.c6
  go_wp2_with fail
  refine (copied_any lo q p l 1000000 o a b c _ (by omega) (hr.out.next Y.out.2.2)).mono ?_
  rintro e1 W2 ⟨po, co, rfl, hO, hb⟩
  have Y1 : Hid (Box W2 (w.heap.size + 1) [.int .i64 0, .int .i64 0, .int .i64 0, .int .i64 0, .int .i64 0, .slice none 0 0] ∧ Below w.heap.size w W2 ∧ OwnG W2 31 2 (.slice po l.length co) l.length (flatD l) W1.heap.size ∧ w.heap.size + 1 < W1.heap.size) := ⟨Y.out.2.1.next hb, Y.out.2.2.trans (hb.mono Y.out.2.2.size), hO, Y.out.2.1.lt⟩
  clear hb hO a0 a1 a2 a3 a4 a5 Y
  generalize W1.heap.size = lv at *
  go_upto_region 6 with fail
  refine wp_gen (fun W => Box W (w.heap.size + 1) [.int .i64 0, .int .i64 0, .int .i64 0, .int .i64 0, .int .i64 0, .slice none 0 0] ∧ Below w.heap.size w W ∧ OwnG W 31 2 (.slice po l.length co) l.length (flatD l) lv ∧ w.heap.size + 1 < lv ∧ Box W W2.heap.size [.int .i64 1000000, .int .i64 o, .int .i64 a, .int .i64 b, .int .i64 c, .slice po l.length co] ∧ w.heap.size + 1 < W2.heap.size) ⟨Y1.out.1.alloc, Y1.out.2.1.trans ((bel_alloc _ _).mono Y1.out.2.1.size), Y1.out.2.2.1.next (bel_alloc _ _), Y1.out.2.2.2, box_mk, Y1.out.1.lt⟩ (fun W3 hI => ?_)
  clear Y1
  have Y1 : Hid _ := hI
  clear hI
  generalize W2.heap.size = ga at *
  obtain ⟨a0, a1, a2, a3, a4, a5⟩ := Y1.out.2.2.2.2.1.c6
  obtain ⟨b0, b1, b2, b3, b4, b5⟩ := Y1.out.1.c6
  obtain ⟨f0, f1, f2, f3, f4, f5⟩ := Y1.out.1.f6
  go_wp2_with fail
  clear a0 a1 a2 a3 a4 a5 b0 b1 b2 b3 b4 b5 f0 f1 f2 f3 f4 f5
  have hlt := Y1.out.2.2.2.1
  have q0 : ∀ k, (Value.slice po l.length co).ownBlock = some k → ¬ k = w.heap.size + 1 := fun k hk => by have := Y1.out.2.2.1.ge k hk; omega
  have Z := Y1.out.1.s6 (u0 := .int .i64 1000000) (u1 := .int .i64 o) (u2 := .int .i64 a) (u3 := .int .i64 b) (u4 := .int .i64 c) (u5 := .slice po l.length co)
  obtain ⟨z0, z1, z2, z3, z4, z5⟩ := Z.c6
  clear Z
  refine bodyPost_ret (v := .tuple #[.agg #[.int .i64 1000000, .int .i64 o, .int .i64 a, .int .i64 b, .int .i64 c, .slice po l.length co], .int .i64 6]) (by simp [results, Try.results11, go_sem, z0, z1, z2, z3, z4, z5]) rfl ⟨_, _, rfl, ?_, ?_⟩
  · exact (OwnG.mr (((((((Y1.out.2.2.1.kp Kp.set q0).kp Kp.set q0).kp Kp.set q0).kp Kp.set q0).kp Kp.set q0).kp Kp.set q0))).weak (by omega)
  · exact bel_in (bel_in (bel_in (bel_in (bel_in (bel_in Y1.out.2.1 (by omega)) (by omega)) (by omega)) (by omega)) (by omega)) (by omega)

set_option maxRecDepth 20000 in
set_option maxHeartbeats 2000000 in
theorem implT_ok (lo q : Nat) (p : Option Addr) (l : List Dt) (e o a b c ow : Int) (w : World) (hl : (l.length : Int) ≤ 1048576) (hr0 : GRow lo w p (flatD l)) (hg : gokB e o a b c l = true) (ho : decide (0 ≤ ow ∧ ow < 3) = true) (he : e ≠ 1000000) :
    Calls Try.prog 11 #[.agg #[.int .i64 e, .int .i64 o, .int .i64 a, .int .i64 b, .int .i64 c, .slice p l.length q], .int .i64 ow] w fun r w' => ∃ po co, r = .returned (.tuple #[.agg #[.int .i64 (e + 1), .int .i64 ow, .int .i64 a, .int .i64 b, .int .i64 c, .slice po l.length co], .int .i64 0]) ∧ MR w.heap.size w' po l ∧ Below w.heap.size w w' := by
  have hbd : Hid _ := gok_bounds hg
  have he1 : (e == 1000000) = false := beq_eq_false_iff_ne.2 he
  have he2 : ¬ (1000000 : Int) ≤ e := by have := hbd.out; omega
  have he3 : IntKind.i64.wrap (e + 1) = e + 1 := by rw [IntKind.wrap_i64]; have := hbd.out; omega
  have hr : Hid (GRow lo w p (flatD l)) := hr0
  clear hr0
  go_enter Try.func11, Try.ntmps11
  go_upto_region 1 with fail
  refine wp_gen (fun W => Box W w.heap.size [.int .i64 e, .int .i64 o, .int .i64 a, .int .i64 b, .int .i64 c, .slice p l.length q] ∧ Box W (w.heap.size + 1) [.int .i64 0, .int .i64 0, .int .i64 0, .int .i64 0, .int .i64 0, .slice none 0 0] ∧ Below w.heap.size w W) ⟨box_mk.alloc, ?_, (bel_alloc _ _).trans ((bel_alloc _ _).mono (by simp))⟩ (fun W0 hI => ?_)
  · have := box_mk (W := w.alloc (.cells #[.int .i64 e, .int .i64 o, .int .i64 a, .int .i64 b, .int .i64 c, .slice p l.length q] 27)) (t := 27) (vs := [.int .i64 0, .int .i64 0, .int .i64 0, .int .i64 0, .int .i64 0, .slice none 0 0])
    simpa using this
  have Y : Hid _ := hI
  clear hI
  obtain ⟨a0, a1, a2, a3, a4, a5⟩ := Y.out.1.c6
  go_wp2_with fail
  refine (implG_any lo q p l e o a b c _ hl (hr.out.next Y.out.2.2)).mono ?_
  rintro e1 W1 ⟨rfl, hb⟩
  replace Y : Hid (Box W1 w.heap.size [.int .i64 e, .int .i64 o, .int .i64 a, .int .i64 b, .int .i64 c, .slice p l.length q] ∧ Box W1 (w.heap.size + 1) [.int .i64 0, .int .i64 0, .int .i64 0, .int .i64 0, .int .i64 0, .slice none 0 0] ∧ Below w.heap.size w W1) := ⟨Y.out.1.next hb, Y.out.2.1.next hb, Y.out.2.2.trans (hb.mono Y.out.2.2.size)⟩
  clear hb a0 a1 a2 a3 a4 a5
  rw [hg]
  go_wp2_with fail
  refine (isNode_any ow _).mono ?_
  rintro e1 w1 ⟨rfl, h9⟩
  rw [h9, ho]
  clear h9 w1
  obtain ⟨a0, a1, a2, a3, a4, a5⟩ := Y.out.1.c6
  go_wp2_with fail
  refine (copied_any lo q p l e o a b c _ (by omega) (hr.out.next Y.out.2.2)).mono ?_
  rintro e1 W2 ⟨po, co, rfl, hO, hb⟩
  have Y1 : Hid (Box W2 (w.heap.size + 1) [.int .i64 0, .int .i64 0, .int .i64 0, .int .i64 0, .int .i64 0, .slice none 0 0] ∧ Below w.heap.size w W2 ∧ OwnG W2 31 2 (.slice po l.length co) l.length (flatD l) W1.heap.size ∧ w.heap.size + 1 < W1.heap.size ∧ W1.heap.size ≤ W2.heap.size) := ⟨Y.out.2.1.next hb, Y.out.2.2.trans (hb.mono Y.out.2.2.size), hO, Y.out.2.1.lt, hb.size⟩
  clear hb hO a0 a1 a2 a3 a4 a5 Y
  generalize W1.heap.size = lv at *
  go_upto_region 6 with fail
  refine wp_gen (fun W => Box W (w.heap.size + 1) [.int .i64 0, .int .i64 0, .int .i64 0, .int .i64 0, .int .i64 0, .slice none 0 0] ∧ Below w.heap.size w W ∧ OwnG W 31 2 (.slice po l.length co) l.length (flatD l) lv ∧ w.heap.size + 1 < lv ∧ Box W W2.heap.size [.int .i64 e, .int .i64 o, .int .i64 a, .int .i64 b, .int .i64 c, .slice po l.length co] ∧ w.heap.size + 1 < W2.heap.size ∧ (∀ k, (Value.slice po l.length co).ownBlock = some k → ¬ k = W2.heap.size)) ⟨Y1.out.1.alloc, Y1.out.2.1.trans ((bel_alloc _ _).mono Y1.out.2.1.size), Y1.out.2.2.1.next (bel_alloc _ _), Y1.out.2.2.2.1, box_mk, Y1.out.1.lt, fun k hk => by have := (Y1.out.2.2.1.lt k hk).2; omega⟩ (fun W3 hI => ?_)
  clear Y1
  have Y1 : Hid _ := hI
  clear hI
  generalize W2.heap.size = ga at *
  obtain ⟨a0, a1, a2, a3, a4, a5⟩ := Y1.out.2.2.2.2.1.c6
  obtain ⟨g0, g1, g2, g3, g4, g5⟩ := Y1.out.2.2.2.2.1.f6
  go_upto_region 10 with fail
  have Y2 : Hid (Box ((W3.setCell ⟨ga, 0, none⟩ (.int .i64 (e + 1))).setCell ⟨ga, 1, none⟩ (.int .i64 ow)) (w.heap.size + 1) [.int .i64 0, .int .i64 0, .int .i64 0, .int .i64 0, .int .i64 0, .slice none 0 0] ∧ Below w.heap.size w ((W3.setCell ⟨ga, 0, none⟩ (.int .i64 (e + 1))).setCell ⟨ga, 1, none⟩ (.int .i64 ow)) ∧ OwnG ((W3.setCell ⟨ga, 0, none⟩ (.int .i64 (e + 1))).setCell ⟨ga, 1, none⟩ (.int .i64 ow)) 31 2 (.slice po l.length co) l.length (flatD l) lv ∧ w.heap.size + 1 < lv ∧ Box ((W3.setCell ⟨ga, 0, none⟩ (.int .i64 (e + 1))).setCell ⟨ga, 1, none⟩ (.int .i64 ow)) ga [.int .i64 (e + 1), .int .i64 ow, .int .i64 a, .int .i64 b, .int .i64 c, .slice po l.length co] ∧ w.heap.size + 1 < ga) := by
    have hlt := Y1.out.2.2.2.2.2.1
    have q1 := Y1.out.2.2.2.2.2.2
    refine ⟨Y1.out.1.o2 (by omega), bel_in (bel_in Y1.out.2.1 (by omega)) (by omega), (Y1.out.2.2.1.kp Kp.set q1).kp Kp.set q1, Y1.out.2.2.2.1, ?_, hlt⟩
    have := (Y1.out.2.2.2.2.1.set (i := 0) (u := .int .i64 (e + 1)) (by simp)).set (i := 1) (u := .int .i64 ow) (by simp)
    simpa using this
  clear a0 a1 a2 a3 a4 a5 g0 g1 g2 g3 g4 g5 Y1
  generalize ((W3.setCell ⟨ga, 0, none⟩ (.int .i64 (e + 1))).setCell ⟨ga, 1, none⟩ (.int .i64 ow)) = W4 at *
  have Y1 := Y2
  clear Y2
  obtain ⟨a0, a1, a2, a3, a4, a5⟩ := Y1.out.2.2.2.2.1.c6
  obtain ⟨b0, b1, b2, b3, b4, b5⟩ := Y1.out.1.c6
  obtain ⟨f0, f1, f2, f3, f4, f5⟩ := Y1.out.1.f6
  go_wp2_with fail
  clear a0 a1 a2 a3 a4 a5 b0 b1 b2 b3 b4 b5 f0 f1 f2 f3 f4 f5
  have hlt := Y1.out.2.2.2.1
  have q0 : ∀ k, (Value.slice po l.length co).ownBlock = some k → ¬ k = w.heap.size + 1 := fun k hk => by have := Y1.out.2.2.1.ge k hk; omega
  have Z := Y1.out.1.s6 (u0 := .int .i64 (e + 1)) (u1 := .int .i64 ow) (u2 := .int .i64 a) (u3 := .int .i64 b) (u4 := .int .i64 c) (u5 := .slice po l.length co)
  obtain ⟨z0, z1, z2, z3, z4, z5⟩ := Z.c6
  clear Z
  refine bodyPost_ret (v := .tuple #[.agg #[.int .i64 (e + 1), .int .i64 ow, .int .i64 a, .int .i64 b, .int .i64 c, .slice po l.length co], .int .i64 0]) (by simp [results, Try.results11, go_sem, z0, z1, z2, z3, z4, z5]) rfl ⟨_, _, rfl, ?_, ?_⟩
  · exact (OwnG.mr (((((((Y1.out.2.2.1.kp Kp.set q0).kp Kp.set q0).kp Kp.set q0).kp Kp.set q0).kp Kp.set q0).kp Kp.set q0))).weak (by omega)
  · exact bel_in (bel_in (bel_in (bel_in (bel_in (bel_in Y1.out.2.1 (by omega)) (by omega)) (by omega)) (by omega)) (by omega)) (by omega)
end Go.Proofs.Ytklajcdlacemaaa

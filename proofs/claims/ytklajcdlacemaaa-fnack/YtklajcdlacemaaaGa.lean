/- Ack of both sides. -/
import Derived.Test.YtklajcdlacemaaaRows
import Derived.WalkKit
import Derived.WalkSpells
import Derived.WalkLawsBesides
import Derived.Deep.QuietTactic
import Derived.BigQuiet
import Derived.Deep.RegionHeld3
import Derived.Test.YtklajcdlacemaaaGm
import Derived.LoopN
namespace Go.Proofs.Ytklajcdlacemaaa
open Go.RowKit
set_option linter.unusedSimpArgs false
set_option linter.unusedVariables false

/-- What Ack answers. -/
def AP (w : World) (nb : Bool) (code e o a b c : Int) (l : List Dt) (r : Ending) (w' : World) : Prop := ∃ po co, r = .returned (.tuple #[.agg #[.int .i64 e, .int .i64 o, .int .i64 a, .int .i64 b, .int .i64 c, .slice po l.length co], .bool nb, .int .i64 code]) ∧ MR w.heap.size w' po l ∧ Below w.heap.size w w'
/-- What l11Ack answers. -/
def LP (w : World) (nb : Bool) (code e o a b c : Int) (l : List Dt) (r : Ending) (w' : World) : Prop := ∃ lo po co, r = .returned (.tuple #[.agg #[.int .i64 e, .int .i64 o, .int .i64 a, .int .i64 b, .int .i64 c, .slice po l.length co], .bool nb, .int .i64 code]) ∧ GRow lo w' po (flatD l) ∧ Below w.heap.size w w'
theorem lp_same {lo q : Nat} {p : Option Addr} {l : List Dt} {e o a b c code : Int} {w : World} {f : Nat} {args : Array Value} (hr : GRow lo w p (flatD l)) (h : Calls Try.prog f args w fun r w' => r = .returned (.tuple #[.agg #[.int .i64 e, .int .i64 o, .int .i64 a, .int .i64 b, .int .i64 c, .slice p l.length q], .bool false, .int .i64 code]) ∧ Below w.heap.size w w') : Calls Try.prog f args w (LP w false code e o a b c l) :=
  h.mono fun r w' hh => ⟨lo, p, q, hh.1, hr.next hh.2, hh.2⟩

theorem lp_ok0 (lo q : Nat) (p : Option Addr) (l : List Dt) (e o a b c : Int) (w : World) (hx : 0 ≤ a ∧ a ≤ 9999) (hl : l.length < 4096) (hr0 : GRow lo w p (flatD l)) :
    Calls Try.prog 32 #[.agg #[.int .i64 e, .int .i64 o, .int .i64 a, .int .i64 b, .int .i64 c, .slice p l.length q], .int .i64 e, .agg #[.int .i64 0, .int .i64 (a + 1)]] w (LP w true 0 e o (a + 1) b c (l ++ [⟨0, a + 1⟩])) := by
  refine (lack_ok0 lo q p l e o a b c w hx hl hr0).mono ?_
  rintro r w' ⟨po, co, rfl, hO, hb⟩
  obtain ⟨_, _, e1, _, hg⟩ := hO.grow
  cases e1
  refine ⟨w.heap.size, po, co, ?_, ?_, hb⟩
  · rw [show (l ++ [(⟨0, a + 1⟩ : Dt)]).length = l.length + 1 by simp]
  · rw [flatD_app]
    exact hg

theorem lp_ok1 (lo q : Nat) (p : Option Addr) (l : List Dt) (e o a b c : Int) (w : World) (hx : 0 ≤ b ∧ b ≤ 9999) (hl : l.length < 4096) (hr0 : GRow lo w p (flatD l)) :
    Calls Try.prog 32 #[.agg #[.int .i64 e, .int .i64 o, .int .i64 a, .int .i64 b, .int .i64 c, .slice p l.length q], .int .i64 e, .agg #[.int .i64 1, .int .i64 (b + 1)]] w (LP w true 0 e o a (b + 1) c (l ++ [⟨1, b + 1⟩])) := by
  refine (lack_ok1 lo q p l e o a b c w hx hl hr0).mono ?_
  rintro r w' ⟨po, co, rfl, hO, hb⟩
  obtain ⟨_, _, e1, _, hg⟩ := hO.grow
  cases e1
  refine ⟨w.heap.size, po, co, ?_, ?_, hb⟩
  · rw [show (l ++ [(⟨1, b + 1⟩ : Dt)]).length = l.length + 1 by simp]
  · rw [flatD_app]
    exact hg

theorem lp_ok2 (lo q : Nat) (p : Option Addr) (l : List Dt) (e o a b c : Int) (w : World) (hx : 0 ≤ c ∧ c ≤ 9999) (hl : l.length < 4096) (hr0 : GRow lo w p (flatD l)) :
    Calls Try.prog 32 #[.agg #[.int .i64 e, .int .i64 o, .int .i64 a, .int .i64 b, .int .i64 c, .slice p l.length q], .int .i64 e, .agg #[.int .i64 2, .int .i64 (c + 1)]] w (LP w true 0 e o a b (c + 1) (l ++ [⟨2, c + 1⟩])) := by
  refine (lack_ok2 lo q p l e o a b c w hx hl hr0).mono ?_
  rintro r w' ⟨po, co, rfl, hO, hb⟩
  obtain ⟨_, _, e1, _, hg⟩ := hO.grow
  cases e1
  refine ⟨w.heap.size, po, co, ?_, ?_, hb⟩
  · rw [show (l ++ [(⟨2, c + 1⟩ : Dt)]).length = l.length + 1 by simp]
  · rw [flatD_app]
    exact hg

set_option maxRecDepth 20000 in
set_option maxHeartbeats 4000000 in
theorem specA_bad1 (lo q : Nat) (p : Option Addr) (l : List Dt) (e o a b c ep dp dn : Int) (w : World) (hl : (l.length : Int) ≤ 1048576) (hr0 : GRow lo w p (flatD l)) (hg : gokB e o a b c l = false) :
    Calls Try.prog 12 #[.agg #[.int .i64 e, .int .i64 o, .int .i64 a, .int .i64 b, .int .i64 c, .slice p l.length q], .int .i64 ep, .agg #[.int .i64 dp, .int .i64 dn]] w (AP w false 1 0 0 0 0 0 []) := by
  have hr : Hid (GRow lo w p (flatD l)) := hr0
  clear hr0
  go_enter Try.func12, Try.ntmps12
  go_upto_region 1 with fail
  refine wp_gen (fun W => Box W w.heap.size [.int .i64 e, .int .i64 o, .int .i64 a, .int .i64 b, .int .i64 c, .slice p l.length q] ∧ Box W (w.heap.size + 1) [.int .i64 dp, .int .i64 dn] ∧ Box W (w.heap.size + 1 + 1) [.int .i64 0, .int .i64 0, .int .i64 0, .int .i64 0, .int .i64 0, .slice none 0 0] ∧ Below w.heap.size w W) ⟨box_mk.alloc.alloc, box_mid, box_end, bel3 _ _ _ _⟩ (fun W0 hI => ?_)
  have Y : Hid _ := hI
  clear hI
  obtain ⟨a0, a1, a2, a3, a4, a5⟩ := Y.out.1.c6
  go_wp2_with fail
  refine (specG_any lo q p l e o a b c _ hl (hr.out.next Y.out.2.2.2)).mono ?_
  rintro e1 W1 ⟨rfl, hb⟩
  replace Y : Hid (Box W1 w.heap.size [.int .i64 e, .int .i64 o, .int .i64 a, .int .i64 b, .int .i64 c, .slice p l.length q] ∧ Box W1 (w.heap.size + 1) [.int .i64 dp, .int .i64 dn] ∧ Box W1 (w.heap.size + 1 + 1) [.int .i64 0, .int .i64 0, .int .i64 0, .int .i64 0, .int .i64 0, .slice none 0 0] ∧ Below w.heap.size w W1) := ⟨Y.out.1.next hb, Y.out.2.1.next hb, Y.out.2.2.1.next hb, Y.out.2.2.2.trans (hb.mono Y.out.2.2.2.size)⟩
  clear hb a0 a1 a2 a3 a4 a5
  rw [hg]
  obtain ⟨b0, b1, b2, b3, b4, b5⟩ := Y.out.2.2.1.c6
  obtain ⟨f0, f1, f2, f3, f4, f5⟩ := Y.out.2.2.1.f6
  go_wp2_with fail
  clear b0 b1 b2 b3 b4 b5 f0 f1 f2 f3 f4 f5
  have Z := Y.out.2.2.1.s6 (u0 := .int .i64 0) (u1 := .int .i64 0) (u2 := .int .i64 0) (u3 := .int .i64 0) (u4 := .int .i64 0) (u5 := .slice none 0 0)
  obtain ⟨z0, z1, z2, z3, z4, z5⟩ := Z.c6
  clear Z
  refine bodyPost_ret (v := .tuple #[.agg #[.int .i64 0, .int .i64 0, .int .i64 0, .int .i64 0, .int .i64 0, .slice none 0 0], .bool false, .int .i64 1]) (by simp [results, Try.results12, go_sem, z0, z1, z2, z3, z4, z5]) rfl ?_
  have HBL : Below w.heap.size w _ := bel_in (bel_in (bel_in (bel_in (bel_in (bel_in Y.out.2.2.2 (i := 0) (u := .int .i64 0) (g := (w.heap.size + 1 + 1)) (by omega)) (i := 1) (u := .int .i64 0) (g := (w.heap.size + 1 + 1)) (by omega)) (i := 2) (u := .int .i64 0) (g := (w.heap.size + 1 + 1)) (by omega)) (i := 3) (u := .int .i64 0) (g := (w.heap.size + 1 + 1)) (by omega)) (i := 4) (u := .int .i64 0) (g := (w.heap.size + 1 + 1)) (by omega)) (i := 5) (u := .slice none 0 0) (g := (w.heap.size + 1 + 1)) (by omega)
  exact ⟨_, _, rfl, MR.nil _ _ _, HBL⟩

set_option maxRecDepth 20000 in
set_option maxHeartbeats 4000000 in
theorem specA_bad2 (lo q : Nat) (p : Option Addr) (l : List Dt) (e o a b c ep dp dn : Int) (w : World) (hl : (l.length : Int) ≤ 1048576) (hr0 : GRow lo w p (flatD l)) (hg : gokB e o a b c l = true) (hd : dotB dp dn = false) :
    Calls Try.prog 12 #[.agg #[.int .i64 e, .int .i64 o, .int .i64 a, .int .i64 b, .int .i64 c, .slice p l.length q], .int .i64 ep, .agg #[.int .i64 dp, .int .i64 dn]] w (AP w false 1 0 0 0 0 0 []) := by
  have hr : Hid (GRow lo w p (flatD l)) := hr0
  clear hr0
  go_enter Try.func12, Try.ntmps12
  go_upto_region 1 with fail
  refine wp_gen (fun W => Box W w.heap.size [.int .i64 e, .int .i64 o, .int .i64 a, .int .i64 b, .int .i64 c, .slice p l.length q] ∧ Box W (w.heap.size + 1) [.int .i64 dp, .int .i64 dn] ∧ Box W (w.heap.size + 1 + 1) [.int .i64 0, .int .i64 0, .int .i64 0, .int .i64 0, .int .i64 0, .slice none 0 0] ∧ Below w.heap.size w W) ⟨box_mk.alloc.alloc, box_mid, box_end, bel3 _ _ _ _⟩ (fun W0 hI => ?_)
  have Y : Hid _ := hI
  clear hI
  obtain ⟨a0, a1, a2, a3, a4, a5⟩ := Y.out.1.c6
  go_wp2_with fail
  refine (specG_any lo q p l e o a b c _ hl (hr.out.next Y.out.2.2.2)).mono ?_
  rintro e1 W1 ⟨rfl, hb⟩
  replace Y : Hid (Box W1 w.heap.size [.int .i64 e, .int .i64 o, .int .i64 a, .int .i64 b, .int .i64 c, .slice p l.length q] ∧ Box W1 (w.heap.size + 1) [.int .i64 dp, .int .i64 dn] ∧ Box W1 (w.heap.size + 1 + 1) [.int .i64 0, .int .i64 0, .int .i64 0, .int .i64 0, .int .i64 0, .slice none 0 0] ∧ Below w.heap.size w W1) := ⟨Y.out.1.next hb, Y.out.2.1.next hb, Y.out.2.2.1.next hb, Y.out.2.2.2.trans (hb.mono Y.out.2.2.2.size)⟩
  clear hb a0 a1 a2 a3 a4 a5
  rw [hg]
  obtain ⟨d0, d1⟩ := Y.out.2.1.c2
  go_wp2_with fail
  refine (spec_dot dp dn _).mono ?_
  rintro e1 W2 ⟨rfl, hb⟩
  replace Y : Hid (Box W2 w.heap.size [.int .i64 e, .int .i64 o, .int .i64 a, .int .i64 b, .int .i64 c, .slice p l.length q] ∧ Box W2 (w.heap.size + 1) [.int .i64 dp, .int .i64 dn] ∧ Box W2 (w.heap.size + 1 + 1) [.int .i64 0, .int .i64 0, .int .i64 0, .int .i64 0, .int .i64 0, .slice none 0 0] ∧ Below w.heap.size w W2) := ⟨Y.out.1.next hb, Y.out.2.1.next hb, Y.out.2.2.1.next hb, Y.out.2.2.2.trans (hb.mono Y.out.2.2.2.size)⟩
  clear hb d0 d1
  rw [hd]
  obtain ⟨b0, b1, b2, b3, b4, b5⟩ := Y.out.2.2.1.c6
  obtain ⟨f0, f1, f2, f3, f4, f5⟩ := Y.out.2.2.1.f6
  go_wp2_with fail
  clear b0 b1 b2 b3 b4 b5 f0 f1 f2 f3 f4 f5
  have Z := Y.out.2.2.1.s6 (u0 := .int .i64 0) (u1 := .int .i64 0) (u2 := .int .i64 0) (u3 := .int .i64 0) (u4 := .int .i64 0) (u5 := .slice none 0 0)
  obtain ⟨z0, z1, z2, z3, z4, z5⟩ := Z.c6
  clear Z
  refine bodyPost_ret (v := .tuple #[.agg #[.int .i64 0, .int .i64 0, .int .i64 0, .int .i64 0, .int .i64 0, .slice none 0 0], .bool false, .int .i64 1]) (by simp [results, Try.results12, go_sem, z0, z1, z2, z3, z4, z5]) rfl ?_
  have HBL : Below w.heap.size w _ := bel_in (bel_in (bel_in (bel_in (bel_in (bel_in Y.out.2.2.2 (i := 0) (u := .int .i64 0) (g := (w.heap.size + 1 + 1)) (by omega)) (i := 1) (u := .int .i64 0) (g := (w.heap.size + 1 + 1)) (by omega)) (i := 2) (u := .int .i64 0) (g := (w.heap.size + 1 + 1)) (by omega)) (i := 3) (u := .int .i64 0) (g := (w.heap.size + 1 + 1)) (by omega)) (i := 4) (u := .int .i64 0) (g := (w.heap.size + 1 + 1)) (by omega)) (i := 5) (u := .slice none 0 0) (g := (w.heap.size + 1 + 1)) (by omega)
  exact ⟨_, _, rfl, MR.nil _ _ _, HBL⟩

set_option maxRecDepth 20000 in
set_option maxHeartbeats 4000000 in
theorem implA_bad1 (lo q : Nat) (p : Option Addr) (l : List Dt) (e o a b c ep dp dn : Int) (w : World) (hl : (l.length : Int) ≤ 1048576) (hr0 : GRow lo w p (flatD l)) (hg : gokB e o a b c l = false) :
    Calls Try.prog 10 #[.agg #[.int .i64 e, .int .i64 o, .int .i64 a, .int .i64 b, .int .i64 c, .slice p l.length q], .int .i64 ep, .agg #[.int .i64 dp, .int .i64 dn]] w (AP w false 1 0 0 0 0 0 []) := by
  have hr : Hid (GRow lo w p (flatD l)) := hr0
  clear hr0
  go_enter Try.func10, Try.ntmps10
  go_upto_region 1 with fail
  refine wp_gen (fun W => Box W w.heap.size [.int .i64 e, .int .i64 o, .int .i64 a, .int .i64 b, .int .i64 c, .slice p l.length q] ∧ Box W (w.heap.size + 1) [.int .i64 dp, .int .i64 dn] ∧ Box W (w.heap.size + 1 + 1) [.int .i64 0, .int .i64 0, .int .i64 0, .int .i64 0, .int .i64 0, .slice none 0 0] ∧ Below w.heap.size w W) ⟨box_mk.alloc.alloc, box_mid, box_end, bel3 _ _ _ _⟩ (fun W0 hI => ?_)
  have Y : Hid _ := hI
  clear hI
  obtain ⟨a0, a1, a2, a3, a4, a5⟩ := Y.out.1.c6
  go_wp2_with fail
  refine (implG_any lo q p l e o a b c _ hl (hr.out.next Y.out.2.2.2)).mono ?_
  rintro e1 W1 ⟨rfl, hb⟩
  replace Y : Hid (Box W1 w.heap.size [.int .i64 e, .int .i64 o, .int .i64 a, .int .i64 b, .int .i64 c, .slice p l.length q] ∧ Box W1 (w.heap.size + 1) [.int .i64 dp, .int .i64 dn] ∧ Box W1 (w.heap.size + 1 + 1) [.int .i64 0, .int .i64 0, .int .i64 0, .int .i64 0, .int .i64 0, .slice none 0 0] ∧ Below w.heap.size w W1) := ⟨Y.out.1.next hb, Y.out.2.1.next hb, Y.out.2.2.1.next hb, Y.out.2.2.2.trans (hb.mono Y.out.2.2.2.size)⟩
  clear hb a0 a1 a2 a3 a4 a5
  rw [hg]
  obtain ⟨b0, b1, b2, b3, b4, b5⟩ := Y.out.2.2.1.c6
  obtain ⟨f0, f1, f2, f3, f4, f5⟩ := Y.out.2.2.1.f6
  go_wp2_with fail
  clear b0 b1 b2 b3 b4 b5 f0 f1 f2 f3 f4 f5
  have Z := Y.out.2.2.1.s6 (u0 := .int .i64 0) (u1 := .int .i64 0) (u2 := .int .i64 0) (u3 := .int .i64 0) (u4 := .int .i64 0) (u5 := .slice none 0 0)
  obtain ⟨z0, z1, z2, z3, z4, z5⟩ := Z.c6
  clear Z
  refine bodyPost_ret (v := .tuple #[.agg #[.int .i64 0, .int .i64 0, .int .i64 0, .int .i64 0, .int .i64 0, .slice none 0 0], .bool false, .int .i64 1]) (by simp [results, Try.results10, go_sem, z0, z1, z2, z3, z4, z5]) rfl ?_
  have HBL : Below w.heap.size w _ := bel_in (bel_in (bel_in (bel_in (bel_in (bel_in Y.out.2.2.2 (i := 0) (u := .int .i64 0) (g := (w.heap.size + 1 + 1)) (by omega)) (i := 1) (u := .int .i64 0) (g := (w.heap.size + 1 + 1)) (by omega)) (i := 2) (u := .int .i64 0) (g := (w.heap.size + 1 + 1)) (by omega)) (i := 3) (u := .int .i64 0) (g := (w.heap.size + 1 + 1)) (by omega)) (i := 4) (u := .int .i64 0) (g := (w.heap.size + 1 + 1)) (by omega)) (i := 5) (u := .slice none 0 0) (g := (w.heap.size + 1 + 1)) (by omega)
  exact ⟨_, _, rfl, MR.nil _ _ _, HBL⟩

set_option maxRecDepth 20000 in
set_option maxHeartbeats 4000000 in
theorem implA_bad2 (lo q : Nat) (p : Option Addr) (l : List Dt) (e o a b c ep dp dn : Int) (w : World) (hl : (l.length : Int) ≤ 1048576) (hr0 : GRow lo w p (flatD l)) (hg : gokB e o a b c l = true) (hd : dotB dp dn = false) :
    Calls Try.prog 10 #[.agg #[.int .i64 e, .int .i64 o, .int .i64 a, .int .i64 b, .int .i64 c, .slice p l.length q], .int .i64 ep, .agg #[.int .i64 dp, .int .i64 dn]] w (AP w false 1 0 0 0 0 0 []) := by
  have hr : Hid (GRow lo w p (flatD l)) := hr0
  clear hr0
  go_enter Try.func10, Try.ntmps10
  go_upto_region 1 with fail
  refine wp_gen (fun W => Box W w.heap.size [.int .i64 e, .int .i64 o, .int .i64 a, .int .i64 b, .int .i64 c, .slice p l.length q] ∧ Box W (w.heap.size + 1) [.int .i64 dp, .int .i64 dn] ∧ Box W (w.heap.size + 1 + 1) [.int .i64 0, .int .i64 0, .int .i64 0, .int .i64 0, .int .i64 0, .slice none 0 0] ∧ Below w.heap.size w W) ⟨box_mk.alloc.alloc, box_mid, box_end, bel3 _ _ _ _⟩ (fun W0 hI => ?_)
  have Y : Hid _ := hI
  clear hI
  obtain ⟨a0, a1, a2, a3, a4, a5⟩ := Y.out.1.c6
  go_wp2_with fail
  refine (implG_any lo q p l e o a b c _ hl (hr.out.next Y.out.2.2.2)).mono ?_
  rintro e1 W1 ⟨rfl, hb⟩
  replace Y : Hid (Box W1 w.heap.size [.int .i64 e, .int .i64 o, .int .i64 a, .int .i64 b, .int .i64 c, .slice p l.length q] ∧ Box W1 (w.heap.size + 1) [.int .i64 dp, .int .i64 dn] ∧ Box W1 (w.heap.size + 1 + 1) [.int .i64 0, .int .i64 0, .int .i64 0, .int .i64 0, .int .i64 0, .slice none 0 0] ∧ Below w.heap.size w W1) := ⟨Y.out.1.next hb, Y.out.2.1.next hb, Y.out.2.2.1.next hb, Y.out.2.2.2.trans (hb.mono Y.out.2.2.2.size)⟩
  clear hb a0 a1 a2 a3 a4 a5
  rw [hg]
  obtain ⟨d0, d1⟩ := Y.out.2.1.c2
  go_wp2_with fail
  refine (impl_dot dp dn _).mono ?_
  rintro e1 W2 ⟨rfl, hb⟩
  replace Y : Hid (Box W2 w.heap.size [.int .i64 e, .int .i64 o, .int .i64 a, .int .i64 b, .int .i64 c, .slice p l.length q] ∧ Box W2 (w.heap.size + 1) [.int .i64 dp, .int .i64 dn] ∧ Box W2 (w.heap.size + 1 + 1) [.int .i64 0, .int .i64 0, .int .i64 0, .int .i64 0, .int .i64 0, .slice none 0 0] ∧ Below w.heap.size w W2) := ⟨Y.out.1.next hb, Y.out.2.1.next hb, Y.out.2.2.1.next hb, Y.out.2.2.2.trans (hb.mono Y.out.2.2.2.size)⟩
  clear hb d0 d1
  rw [hd]
  obtain ⟨b0, b1, b2, b3, b4, b5⟩ := Y.out.2.2.1.c6
  obtain ⟨f0, f1, f2, f3, f4, f5⟩ := Y.out.2.2.1.f6
  go_wp2_with fail
  clear b0 b1 b2 b3 b4 b5 f0 f1 f2 f3 f4 f5
  have Z := Y.out.2.2.1.s6 (u0 := .int .i64 0) (u1 := .int .i64 0) (u2 := .int .i64 0) (u3 := .int .i64 0) (u4 := .int .i64 0) (u5 := .slice none 0 0)
  obtain ⟨z0, z1, z2, z3, z4, z5⟩ := Z.c6
  clear Z
  refine bodyPost_ret (v := .tuple #[.agg #[.int .i64 0, .int .i64 0, .int .i64 0, .int .i64 0, .int .i64 0, .slice none 0 0], .bool false, .int .i64 1]) (by simp [results, Try.results10, go_sem, z0, z1, z2, z3, z4, z5]) rfl ?_
  have HBL : Below w.heap.size w _ := bel_in (bel_in (bel_in (bel_in (bel_in (bel_in Y.out.2.2.2 (i := 0) (u := .int .i64 0) (g := (w.heap.size + 1 + 1)) (by omega)) (i := 1) (u := .int .i64 0) (g := (w.heap.size + 1 + 1)) (by omega)) (i := 2) (u := .int .i64 0) (g := (w.heap.size + 1 + 1)) (by omega)) (i := 3) (u := .int .i64 0) (g := (w.heap.size + 1 + 1)) (by omega)) (i := 4) (u := .int .i64 0) (g := (w.heap.size + 1 + 1)) (by omega)) (i := 5) (u := .slice none 0 0) (g := (w.heap.size + 1 + 1)) (by omega)
  exact ⟨_, _, rfl, MR.nil _ _ _, HBL⟩

set_option maxRecDepth 20000 in
set_option maxHeartbeats 4000000 in
theorem specA_of (lo q : Nat) (p : Option Addr) (l : List Dt) (e o a b c ep dp dn : Int) (w : World) (hl : (l.length : Int) ≤ 1048576) (hr0 : GRow lo w p (flatD l)) (hg : gokB e o a b c l = true) (hd : dotB dp dn = true) (nb : Bool) (code a' b' c' : Int) (l' : List Dt) (hl' : l'.length ≤ 1048576) (hL0 : ∀ W, GRow lo W p (flatD l) → Calls Try.prog 32 #[.agg #[.int .i64 e, .int .i64 o, .int .i64 a, .int .i64 b, .int .i64 c, .slice p l.length q], .int .i64 ep, .agg #[.int .i64 dp, .int .i64 dn]] W (LP W nb code e o a' b' c' l')) :
    Calls Try.prog 12 #[.agg #[.int .i64 e, .int .i64 o, .int .i64 a, .int .i64 b, .int .i64 c, .slice p l.length q], .int .i64 ep, .agg #[.int .i64 dp, .int .i64 dn]] w (AP w nb code e o a' b' c' l') := by
  have hL : Hid _ := hL0
  clear hL0
  have hr : Hid (GRow lo w p (flatD l)) := hr0
  clear hr0
  go_enter Try.func12, Try.ntmps12
  go_upto_region 1 with fail
  refine wp_gen (fun W => Box W w.heap.size [.int .i64 e, .int .i64 o, .int .i64 a, .int .i64 b, .int .i64 c, .slice p l.length q] ∧ Box W (w.heap.size + 1) [.int .i64 dp, .int .i64 dn] ∧ Box W (w.heap.size + 1 + 1) [.int .i64 0, .int .i64 0, .int .i64 0, .int .i64 0, .int .i64 0, .slice none 0 0] ∧ Below w.heap.size w W) ⟨box_mk.alloc.alloc, box_mid, box_end, bel3 _ _ _ _⟩ (fun W0 hI => ?_)
  have Y : Hid _ := hI
  clear hI
  obtain ⟨a0, a1, a2, a3, a4, a5⟩ := Y.out.1.c6
  go_wp2_with fail
  refine (specG_any lo q p l e o a b c _ hl (hr.out.next Y.out.2.2.2)).mono ?_
  rintro e1 W1 ⟨rfl, hb⟩
  replace Y : Hid (Box W1 w.heap.size [.int .i64 e, .int .i64 o, .int .i64 a, .int .i64 b, .int .i64 c, .slice p l.length q] ∧ Box W1 (w.heap.size + 1) [.int .i64 dp, .int .i64 dn] ∧ Box W1 (w.heap.size + 1 + 1) [.int .i64 0, .int .i64 0, .int .i64 0, .int .i64 0, .int .i64 0, .slice none 0 0] ∧ Below w.heap.size w W1) := ⟨Y.out.1.next hb, Y.out.2.1.next hb, Y.out.2.2.1.next hb, Y.out.2.2.2.trans (hb.mono Y.out.2.2.2.size)⟩
  clear hb a0 a1 a2 a3 a4 a5
  rw [hg]
  obtain ⟨d0, d1⟩ := Y.out.2.1.c2
  go_wp2_with fail
  refine (spec_dot dp dn _).mono ?_
  rintro e1 W2 ⟨rfl, hb⟩
  replace Y : Hid (Box W2 w.heap.size [.int .i64 e, .int .i64 o, .int .i64 a, .int .i64 b, .int .i64 c, .slice p l.length q] ∧ Box W2 (w.heap.size + 1) [.int .i64 dp, .int .i64 dn] ∧ Box W2 (w.heap.size + 1 + 1) [.int .i64 0, .int .i64 0, .int .i64 0, .int .i64 0, .int .i64 0, .slice none 0 0] ∧ Below w.heap.size w W2) := ⟨Y.out.1.next hb, Y.out.2.1.next hb, Y.out.2.2.1.next hb, Y.out.2.2.2.trans (hb.mono Y.out.2.2.2.size)⟩
  clear hb d0 d1
  rw [hd]
  obtain ⟨a0, a1, a2, a3, a4, a5⟩ := Y.out.1.c6
  obtain ⟨d0, d1⟩ := Y.out.2.1.c2
  go_wp2_with fail
  refine Calls.mono (hL.out _ (hr.out.next Y.out.2.2.2)) ?_
  rintro e1 W3 ⟨lo2, po, co, rfl, hR, hb⟩
  replace Y : Hid (Box W3 w.heap.size [.int .i64 e, .int .i64 o, .int .i64 a, .int .i64 b, .int .i64 c, .slice p l.length q] ∧ Box W3 (w.heap.size + 1) [.int .i64 dp, .int .i64 dn] ∧ Box W3 (w.heap.size + 1 + 1) [.int .i64 0, .int .i64 0, .int .i64 0, .int .i64 0, .int .i64 0, .slice none 0 0] ∧ Below w.heap.size w W3) := ⟨Y.out.1.next hb, Y.out.2.1.next hb, Y.out.2.2.1.next hb, Y.out.2.2.2.trans (hb.mono Y.out.2.2.2.size)⟩
  have HR : Hid (GRow lo2 W3 po (flatD l')) := hR
  clear hb hR a0 a1 a2 a3 a4 a5 d0 d1 hL hr
  go_upto_region 4 with fail
  refine wp_gen (fun W => Box W (w.heap.size + 1 + 1) [.int .i64 0, .int .i64 0, .int .i64 0, .int .i64 0, .int .i64 0, .slice none 0 0] ∧ Below w.heap.size w W ∧ GRow lo2 W po (flatD l') ∧ Box W W3.heap.size [.int .i64 e, .int .i64 o, .int .i64 a', .int .i64 b', .int .i64 c', .slice po l'.length co]) ⟨Y.out.2.2.1.alloc, Y.out.2.2.2.trans ((bel_alloc _ _).mono Y.out.2.2.2.size), HR.out.next (bel_alloc _ _), box_mk⟩ (fun W4 hI => ?_)
  clear Y HR
  have Y : Hid _ := hI
  clear hI
  generalize W3.heap.size = gx at *
  obtain ⟨a0, a1, a2, a3, a4, a5⟩ := Y.out.2.2.2.c6
  go_wp2_with fail
  refine (own_any lo2 co po l' e o a' b' c' _ hl' Y.out.2.2.1).mono ?_
  rintro e1 W5 ⟨pz, cz, rfl, hO, hb⟩
  have Y1 : Hid (Box W5 (w.heap.size + 1 + 1) [.int .i64 0, .int .i64 0, .int .i64 0, .int .i64 0, .int .i64 0, .slice none 0 0] ∧ Below w.heap.size w W5 ∧ OwnG W5 31 2 (.slice pz l'.length cz) l'.length (flatD l') W4.heap.size ∧ w.heap.size + 1 + 1 < W4.heap.size) := ⟨Y.out.1.next hb, Y.out.2.1.trans (hb.mono Y.out.2.1.size), hO, Y.out.1.lt⟩
  clear hb hO a0 a1 a2 a3 a4 a5 Y
  generalize W4.heap.size = lv at *
  obtain ⟨b0, b1, b2, b3, b4, b5⟩ := Y1.out.1.c6
  obtain ⟨f0, f1, f2, f3, f4, f5⟩ := Y1.out.1.f6
  go_wp2_with fail
  clear b0 b1 b2 b3 b4 b5 f0 f1 f2 f3 f4 f5
  have hlt := Y1.out.2.2.2
  have q0 : ∀ k, (Value.slice pz l'.length cz).ownBlock = some k → ¬ k = w.heap.size + 1 + 1 := fun k hk => by have := Y1.out.2.2.1.ge k hk; omega
  have Z := Y1.out.1.s6 (u0 := .int .i64 e) (u1 := .int .i64 o) (u2 := .int .i64 a') (u3 := .int .i64 b') (u4 := .int .i64 c') (u5 := .slice pz l'.length cz)
  obtain ⟨z0, z1, z2, z3, z4, z5⟩ := Z.c6
  clear Z
  refine bodyPost_ret (v := .tuple #[.agg #[.int .i64 e, .int .i64 o, .int .i64 a', .int .i64 b', .int .i64 c', .slice pz l'.length cz], .bool nb, .int .i64 code]) (by simp [results, Try.results12, go_sem, z0, z1, z2, z3, z4, z5]) rfl ?_
  have HBL : Below w.heap.size w _ := bel_in (bel_in (bel_in (bel_in (bel_in (bel_in Y1.out.2.1 (i := 0) (u := .int .i64 e) (g := (w.heap.size + 1 + 1)) (by omega)) (i := 1) (u := .int .i64 o) (g := (w.heap.size + 1 + 1)) (by omega)) (i := 2) (u := .int .i64 a') (g := (w.heap.size + 1 + 1)) (by omega)) (i := 3) (u := .int .i64 b') (g := (w.heap.size + 1 + 1)) (by omega)) (i := 4) (u := .int .i64 c') (g := (w.heap.size + 1 + 1)) (by omega)) (i := 5) (u := .slice pz l'.length cz) (g := (w.heap.size + 1 + 1)) (by omega)
  exact ⟨pz, cz, rfl, (OwnG.mr ((((((Y1.out.2.2.1.kp Kp.set q0).kp Kp.set q0).kp Kp.set q0).kp Kp.set q0).kp Kp.set q0).kp Kp.set q0)).weak (by omega), HBL⟩

set_option maxRecDepth 20000 in
set_option maxHeartbeats 4000000 in
theorem implA_fence (lo q : Nat) (p : Option Addr) (l : List Dt) (e o a b c ep dp dn : Int) (w : World) (hl : (l.length : Int) ≤ 1048576) (hr0 : GRow lo w p (flatD l)) (hg : gokB e o a b c l = true) (hd : dotB dp dn = true) (h : ep ≠ e) :
    Calls Try.prog 10 #[.agg #[.int .i64 e, .int .i64 o, .int .i64 a, .int .i64 b, .int .i64 c, .slice p l.length q], .int .i64 ep, .agg #[.int .i64 dp, .int .i64 dn]] w (AP w false 12 e o a b c l) := by
  have h1 : (ep == e) = false := beq_eq_false_iff_ne.2 h
  clear h
  have hr : Hid (GRow lo w p (flatD l)) := hr0
  clear hr0
  go_enter Try.func10, Try.ntmps10
  go_upto_region 1 with fail
  refine wp_gen (fun W => Box W w.heap.size [.int .i64 e, .int .i64 o, .int .i64 a, .int .i64 b, .int .i64 c, .slice p l.length q] ∧ Box W (w.heap.size + 1) [.int .i64 dp, .int .i64 dn] ∧ Box W (w.heap.size + 1 + 1) [.int .i64 0, .int .i64 0, .int .i64 0, .int .i64 0, .int .i64 0, .slice none 0 0] ∧ Below w.heap.size w W) ⟨box_mk.alloc.alloc, box_mid, box_end, bel3 _ _ _ _⟩ (fun W0 hI => ?_)
  have Y : Hid _ := hI
  clear hI
  obtain ⟨a0, a1, a2, a3, a4, a5⟩ := Y.out.1.c6
  go_wp2_with fail
  refine (implG_any lo q p l e o a b c _ hl (hr.out.next Y.out.2.2.2)).mono ?_
  rintro e1 W1 ⟨rfl, hb⟩
  replace Y : Hid (Box W1 w.heap.size [.int .i64 e, .int .i64 o, .int .i64 a, .int .i64 b, .int .i64 c, .slice p l.length q] ∧ Box W1 (w.heap.size + 1) [.int .i64 dp, .int .i64 dn] ∧ Box W1 (w.heap.size + 1 + 1) [.int .i64 0, .int .i64 0, .int .i64 0, .int .i64 0, .int .i64 0, .slice none 0 0] ∧ Below w.heap.size w W1) := ⟨Y.out.1.next hb, Y.out.2.1.next hb, Y.out.2.2.1.next hb, Y.out.2.2.2.trans (hb.mono Y.out.2.2.2.size)⟩
  clear hb a0 a1 a2 a3 a4 a5
  rw [hg]
  obtain ⟨d0, d1⟩ := Y.out.2.1.c2
  go_wp2_with fail
  refine (impl_dot dp dn _).mono ?_
  rintro e1 W2 ⟨rfl, hb⟩
  replace Y : Hid (Box W2 w.heap.size [.int .i64 e, .int .i64 o, .int .i64 a, .int .i64 b, .int .i64 c, .slice p l.length q] ∧ Box W2 (w.heap.size + 1) [.int .i64 dp, .int .i64 dn] ∧ Box W2 (w.heap.size + 1 + 1) [.int .i64 0, .int .i64 0, .int .i64 0, .int .i64 0, .int .i64 0, .slice none 0 0] ∧ Below w.heap.size w W2) := ⟨Y.out.1.next hb, Y.out.2.1.next hb, Y.out.2.2.1.next hb, Y.out.2.2.2.trans (hb.mono Y.out.2.2.2.size)⟩
  clear hb d0 d1
  rw [hd]
  have HZ : Hid (w.heap.size + 1 + 1 < W2.heap.size) := Y.out.2.2.1.lt
  obtain ⟨a0, a1, a2, a3, a4, a5⟩ := Y.out.1.c6
  go_wp2_with fail
  refine (copied_any lo q p l e o a b c _ (by omega) (hr.out.next Y.out.2.2.2)).mono ?_
  rintro e1 W3 ⟨po, co, rfl, hO, hb⟩
  replace Y : Hid (Box W3 w.heap.size [.int .i64 e, .int .i64 o, .int .i64 a, .int .i64 b, .int .i64 c, .slice p l.length q] ∧ Box W3 (w.heap.size + 1) [.int .i64 dp, .int .i64 dn] ∧ Box W3 (w.heap.size + 1 + 1) [.int .i64 0, .int .i64 0, .int .i64 0, .int .i64 0, .int .i64 0, .slice none 0 0] ∧ Below w.heap.size w W3) := ⟨Y.out.1.next hb, Y.out.2.1.next hb, Y.out.2.2.1.next hb, Y.out.2.2.2.trans (hb.mono Y.out.2.2.2.size)⟩
  have HO : Hid (OwnG W3 31 2 (.slice po l.length co) l.length (flatD l) W2.heap.size ∧ w.heap.size + 1 + 1 < W2.heap.size ∧ W2.heap.size ≤ W3.heap.size) := ⟨hO, by have := Y.out.2.2.1; exact HZ.out, hb.size⟩
  clear hb hO a0 a1 a2 a3 a4 a5 hr
  generalize W2.heap.size = lv at *
  go_upto_region 4 with fail
  refine wp_gen (fun W => Box W (w.heap.size + 1) [.int .i64 dp, .int .i64 dn] ∧ Box W (w.heap.size + 1 + 1) [.int .i64 0, .int .i64 0, .int .i64 0, .int .i64 0, .int .i64 0, .slice none 0 0] ∧ Below w.heap.size w W ∧ OwnG W 31 2 (.slice po l.length co) l.length (flatD l) lv ∧ w.heap.size + 1 + 1 < lv ∧ Box W W3.heap.size [.int .i64 e, .int .i64 o, .int .i64 a, .int .i64 b, .int .i64 c, .slice po l.length co] ∧ lv ≤ W3.heap.size ∧ (∀ k, (Value.slice po l.length co).ownBlock = some k → ¬ k = W3.heap.size)) ⟨Y.out.2.1.alloc, Y.out.2.2.1.alloc, Y.out.2.2.2.trans ((bel_alloc _ _).mono Y.out.2.2.2.size), HO.out.1.next (bel_alloc _ _), HO.out.2.1, box_mk, HO.out.2.2, fun k hk => by have := (HO.out.1.own.lt k hk).2; omega⟩ (fun W4 hI => ?_)
  clear Y HO HZ
  have Y : Hid (Box W4 (w.heap.size + 1) [.int .i64 dp, .int .i64 dn] ∧ Box W4 (w.heap.size + 1 + 1) [.int .i64 0, .int .i64 0, .int .i64 0, .int .i64 0, .int .i64 0, .slice none 0 0] ∧ Below w.heap.size w W4 ∧ OwnG W4 31 2 (.slice po l.length co) l.length (flatD l) lv ∧ w.heap.size + 1 + 1 < lv ∧ Box W4 W3.heap.size [.int .i64 e, .int .i64 o, .int .i64 a, .int .i64 b, .int .i64 c, .slice po l.length co] ∧ lv ≤ W3.heap.size ∧ (∀ k, (Value.slice po l.length co).ownBlock = some k → ¬ k = W3.heap.size)) := hI
  clear hI
  generalize W3.heap.size = ga at *
  obtain ⟨a0, a1, a2, a3, a4, a5⟩ := Y.out.2.2.2.2.2.1.c6
  obtain ⟨d0, d1⟩ := Y.out.1.c2
  obtain ⟨b0, b1, b2, b3, b4, b5⟩ := Y.out.2.1.c6
  obtain ⟨f0, f1, f2, f3, f4, f5⟩ := Y.out.2.1.f6
  go_wp2_with fail
  clear a0 a1 a2 a3 a4 a5 d0 d1 b0 b1 b2 b3 b4 b5 f0 f1 f2 f3 f4 f5
  have hlt := Y.out.2.2.2.2.1
  have q0 : ∀ k, (Value.slice po l.length co).ownBlock = some k → ¬ k = w.heap.size + 1 + 1 := fun k hk => by have := Y.out.2.2.2.1.ge k hk; omega
  have Z := Y.out.2.1.s6 (u0 := .int .i64 e) (u1 := .int .i64 o) (u2 := .int .i64 a) (u3 := .int .i64 b) (u4 := .int .i64 c) (u5 := .slice po l.length co)
  obtain ⟨z0, z1, z2, z3, z4, z5⟩ := Z.c6
  clear Z
  refine bodyPost_ret (v := .tuple #[.agg #[.int .i64 e, .int .i64 o, .int .i64 a, .int .i64 b, .int .i64 c, .slice po l.length co], .bool false, .int .i64 12]) (by simp [results, Try.results10, go_sem, z0, z1, z2, z3, z4, z5]) rfl ?_
  have HBL : Below w.heap.size w _ := bel_in (bel_in (bel_in (bel_in (bel_in (bel_in Y.out.2.2.1 (i := 0) (u := .int .i64 e) (g := (w.heap.size + 1 + 1)) (by omega)) (i := 1) (u := .int .i64 o) (g := (w.heap.size + 1 + 1)) (by omega)) (i := 2) (u := .int .i64 a) (g := (w.heap.size + 1 + 1)) (by omega)) (i := 3) (u := .int .i64 b) (g := (w.heap.size + 1 + 1)) (by omega)) (i := 4) (u := .int .i64 c) (g := (w.heap.size + 1 + 1)) (by omega)) (i := 5) (u := .slice po l.length co) (g := (w.heap.size + 1 + 1)) (by omega)
  exact ⟨po, co, rfl, (OwnG.mr ((((((Y.out.2.2.2.1.kp Kp.set q0).kp Kp.set q0).kp Kp.set q0).kp Kp.set q0).kp Kp.set q0).kp Kp.set q0)).weak (by omega), HBL⟩

set_option maxRecDepth 20000 in
set_option maxHeartbeats 4000000 in
theorem implA_known (lo q : Nat) (p : Option Addr) (l : List Dt) (e o a b c dp dn : Int) (w : World) (hl : (l.length : Int) ≤ 1048576) (hr0 : GRow lo w p (flatD l)) (hg : gokB e o a b c l = true) (hd : dotB dp dn = true) (h : dn ≤ comp a b c dp) :
    Calls Try.prog 10 #[.agg #[.int .i64 e, .int .i64 o, .int .i64 a, .int .i64 b, .int .i64 c, .slice p l.length q], .int .i64 e, .agg #[.int .i64 dp, .int .i64 dn]] w (AP w false 0 e o a b c l) := by
  have hdn := dot_node hd
  have hr : Hid (GRow lo w p (flatD l)) := hr0
  clear hr0
  go_enter Try.func10, Try.ntmps10
  go_upto_region 1 with fail
  refine wp_gen (fun W => Box W w.heap.size [.int .i64 e, .int .i64 o, .int .i64 a, .int .i64 b, .int .i64 c, .slice p l.length q] ∧ Box W (w.heap.size + 1) [.int .i64 dp, .int .i64 dn] ∧ Box W (w.heap.size + 1 + 1) [.int .i64 0, .int .i64 0, .int .i64 0, .int .i64 0, .int .i64 0, .slice none 0 0] ∧ Below w.heap.size w W) ⟨box_mk.alloc.alloc, box_mid, box_end, bel3 _ _ _ _⟩ (fun W0 hI => ?_)
  have Y : Hid _ := hI
  clear hI
  obtain ⟨a0, a1, a2, a3, a4, a5⟩ := Y.out.1.c6
  go_wp2_with fail
  refine (implG_any lo q p l e o a b c _ hl (hr.out.next Y.out.2.2.2)).mono ?_
  rintro e1 W1 ⟨rfl, hb⟩
  replace Y : Hid (Box W1 w.heap.size [.int .i64 e, .int .i64 o, .int .i64 a, .int .i64 b, .int .i64 c, .slice p l.length q] ∧ Box W1 (w.heap.size + 1) [.int .i64 dp, .int .i64 dn] ∧ Box W1 (w.heap.size + 1 + 1) [.int .i64 0, .int .i64 0, .int .i64 0, .int .i64 0, .int .i64 0, .slice none 0 0] ∧ Below w.heap.size w W1) := ⟨Y.out.1.next hb, Y.out.2.1.next hb, Y.out.2.2.1.next hb, Y.out.2.2.2.trans (hb.mono Y.out.2.2.2.size)⟩
  clear hb a0 a1 a2 a3 a4 a5
  rw [hg]
  obtain ⟨d0, d1⟩ := Y.out.2.1.c2
  go_wp2_with fail
  refine (impl_dot dp dn _).mono ?_
  rintro e1 W2 ⟨rfl, hb⟩
  replace Y : Hid (Box W2 w.heap.size [.int .i64 e, .int .i64 o, .int .i64 a, .int .i64 b, .int .i64 c, .slice p l.length q] ∧ Box W2 (w.heap.size + 1) [.int .i64 dp, .int .i64 dn] ∧ Box W2 (w.heap.size + 1 + 1) [.int .i64 0, .int .i64 0, .int .i64 0, .int .i64 0, .int .i64 0, .slice none 0 0] ∧ Below w.heap.size w W2) := ⟨Y.out.1.next hb, Y.out.2.1.next hb, Y.out.2.2.1.next hb, Y.out.2.2.2.trans (hb.mono Y.out.2.2.2.size)⟩
  clear hb d0 d1
  rw [hd]
  have HZ : Hid (w.heap.size + 1 + 1 < W2.heap.size) := Y.out.2.2.1.lt
  obtain ⟨a0, a1, a2, a3, a4, a5⟩ := Y.out.1.c6
  go_wp2_with fail
  refine (copied_any lo q p l e o a b c _ (by omega) (hr.out.next Y.out.2.2.2)).mono ?_
  rintro e1 W3 ⟨po, co, rfl, hO, hb⟩
  replace Y : Hid (Box W3 w.heap.size [.int .i64 e, .int .i64 o, .int .i64 a, .int .i64 b, .int .i64 c, .slice p l.length q] ∧ Box W3 (w.heap.size + 1) [.int .i64 dp, .int .i64 dn] ∧ Box W3 (w.heap.size + 1 + 1) [.int .i64 0, .int .i64 0, .int .i64 0, .int .i64 0, .int .i64 0, .slice none 0 0] ∧ Below w.heap.size w W3) := ⟨Y.out.1.next hb, Y.out.2.1.next hb, Y.out.2.2.1.next hb, Y.out.2.2.2.trans (hb.mono Y.out.2.2.2.size)⟩
  have HO : Hid (OwnG W3 31 2 (.slice po l.length co) l.length (flatD l) W2.heap.size ∧ w.heap.size + 1 + 1 < W2.heap.size ∧ W2.heap.size ≤ W3.heap.size) := ⟨hO, by have := Y.out.2.2.1; exact HZ.out, hb.size⟩
  clear hb hO a0 a1 a2 a3 a4 a5 hr
  generalize W2.heap.size = lv at *
  go_upto_region 4 with fail
  refine wp_gen (fun W => Box W (w.heap.size + 1) [.int .i64 dp, .int .i64 dn] ∧ Box W (w.heap.size + 1 + 1) [.int .i64 0, .int .i64 0, .int .i64 0, .int .i64 0, .int .i64 0, .slice none 0 0] ∧ Below w.heap.size w W ∧ OwnG W 31 2 (.slice po l.length co) l.length (flatD l) lv ∧ w.heap.size + 1 + 1 < lv ∧ Box W W3.heap.size [.int .i64 e, .int .i64 o, .int .i64 a, .int .i64 b, .int .i64 c, .slice po l.length co] ∧ lv ≤ W3.heap.size ∧ (∀ k, (Value.slice po l.length co).ownBlock = some k → ¬ k = W3.heap.size)) ⟨Y.out.2.1.alloc, Y.out.2.2.1.alloc, Y.out.2.2.2.trans ((bel_alloc _ _).mono Y.out.2.2.2.size), HO.out.1.next (bel_alloc _ _), HO.out.2.1, box_mk, HO.out.2.2, fun k hk => by have := (HO.out.1.own.lt k hk).2; omega⟩ (fun W4 hI => ?_)
  clear Y HO HZ
  have Y : Hid (Box W4 (w.heap.size + 1) [.int .i64 dp, .int .i64 dn] ∧ Box W4 (w.heap.size + 1 + 1) [.int .i64 0, .int .i64 0, .int .i64 0, .int .i64 0, .int .i64 0, .slice none 0 0] ∧ Below w.heap.size w W4 ∧ OwnG W4 31 2 (.slice po l.length co) l.length (flatD l) lv ∧ w.heap.size + 1 + 1 < lv ∧ Box W4 W3.heap.size [.int .i64 e, .int .i64 o, .int .i64 a, .int .i64 b, .int .i64 c, .slice po l.length co] ∧ lv ≤ W3.heap.size ∧ (∀ k, (Value.slice po l.length co).ownBlock = some k → ¬ k = W3.heap.size)) := hI
  clear hI
  generalize W3.heap.size = ga at *
  obtain ⟨a0, a1, a2, a3, a4, a5⟩ := Y.out.2.2.2.2.2.1.c6
  obtain ⟨d0, d1⟩ := Y.out.1.c2
  go_wp2_with fail
  refine (knows_any a b c dp dn _ hdn.1 hdn.2).mono ?_
  rintro e1 W5 ⟨rfl, hb⟩
  replace Y : Hid (Box W5 (w.heap.size + 1) [.int .i64 dp, .int .i64 dn] ∧ Box W5 (w.heap.size + 1 + 1) [.int .i64 0, .int .i64 0, .int .i64 0, .int .i64 0, .int .i64 0, .slice none 0 0] ∧ Below w.heap.size w W5 ∧ OwnG W5 31 2 (.slice po l.length co) l.length (flatD l) lv ∧ w.heap.size + 1 + 1 < lv ∧ Box W5 ga [.int .i64 e, .int .i64 o, .int .i64 a, .int .i64 b, .int .i64 c, .slice po l.length co] ∧ lv ≤ ga ∧ (∀ k, (Value.slice po l.length co).ownBlock = some k → ¬ k = ga)) := ⟨Y.out.1.next hb, Y.out.2.1.next hb, Y.out.2.2.1.trans (hb.mono Y.out.2.2.1.size), Y.out.2.2.2.1.next hb, Y.out.2.2.2.2.1, Y.out.2.2.2.2.2.1.next hb, Y.out.2.2.2.2.2.2.1, Y.out.2.2.2.2.2.2.2⟩
  clear hb a0 a1 a2 a3 a4 a5 d0 d1
  rw [decide_eq_true h]
  obtain ⟨a0, a1, a2, a3, a4, a5⟩ := Y.out.2.2.2.2.2.1.c6
  obtain ⟨d0, d1⟩ := Y.out.1.c2
  obtain ⟨b0, b1, b2, b3, b4, b5⟩ := Y.out.2.1.c6
  obtain ⟨f0, f1, f2, f3, f4, f5⟩ := Y.out.2.1.f6
  go_wp2_with fail
  clear a0 a1 a2 a3 a4 a5 d0 d1 b0 b1 b2 b3 b4 b5 f0 f1 f2 f3 f4 f5
  have hlt := Y.out.2.2.2.2.1
  have q0 : ∀ k, (Value.slice po l.length co).ownBlock = some k → ¬ k = w.heap.size + 1 + 1 := fun k hk => by have := Y.out.2.2.2.1.ge k hk; omega
  have Z := Y.out.2.1.s6 (u0 := .int .i64 e) (u1 := .int .i64 o) (u2 := .int .i64 a) (u3 := .int .i64 b) (u4 := .int .i64 c) (u5 := .slice po l.length co)
  obtain ⟨z0, z1, z2, z3, z4, z5⟩ := Z.c6
  clear Z
  refine bodyPost_ret (v := .tuple #[.agg #[.int .i64 e, .int .i64 o, .int .i64 a, .int .i64 b, .int .i64 c, .slice po l.length co], .bool false, .int .i64 0]) (by simp [results, Try.results10, go_sem, z0, z1, z2, z3, z4, z5]) rfl ?_
  have HBL : Below w.heap.size w _ := bel_in (bel_in (bel_in (bel_in (bel_in (bel_in Y.out.2.2.1 (i := 0) (u := .int .i64 e) (g := (w.heap.size + 1 + 1)) (by omega)) (i := 1) (u := .int .i64 o) (g := (w.heap.size + 1 + 1)) (by omega)) (i := 2) (u := .int .i64 a) (g := (w.heap.size + 1 + 1)) (by omega)) (i := 3) (u := .int .i64 b) (g := (w.heap.size + 1 + 1)) (by omega)) (i := 4) (u := .int .i64 c) (g := (w.heap.size + 1 + 1)) (by omega)) (i := 5) (u := .slice po l.length co) (g := (w.heap.size + 1 + 1)) (by omega)
  exact ⟨po, co, rfl, (OwnG.mr ((((((Y.out.2.2.2.1.kp Kp.set q0).kp Kp.set q0).kp Kp.set q0).kp Kp.set q0).kp Kp.set q0).kp Kp.set q0)).weak (by omega), HBL⟩

set_option maxRecDepth 20000 in
set_option maxHeartbeats 4000000 in
theorem implA_order0 (lo q : Nat) (p : Option Addr) (l : List Dt) (e o a b c dn : Int) (w : World) (hl : (l.length : Int) ≤ 1048576) (hr0 : GRow lo w p (flatD l)) (hg : gokB e o a b c l = true) (hd : dotB 0 dn = true) (hx : 0 ≤ a ∧ a ≤ 9999) (h1 : a < dn) (h2 : a + 1 ≠ dn) :
    Calls Try.prog 10 #[.agg #[.int .i64 e, .int .i64 o, .int .i64 a, .int .i64 b, .int .i64 c, .slice p l.length q], .int .i64 e, .agg #[.int .i64 0, .int .i64 dn]] w (AP w false 17 e o a b c l) := by
  have hw : IntKind.i64.wrap (a + 1) = a + 1 := by rw [IntKind.wrap_i64]; omega
  have h3 : (dn == a + 1) = false := beq_eq_false_iff_ne.2 (Ne.symm h2)
  have hr : Hid (GRow lo w p (flatD l)) := hr0
  clear hr0
  go_enter Try.func10, Try.ntmps10
  go_upto_region 1 with fail
  refine wp_gen (fun W => Box W w.heap.size [.int .i64 e, .int .i64 o, .int .i64 a, .int .i64 b, .int .i64 c, .slice p l.length q] ∧ Box W (w.heap.size + 1) [.int .i64 0, .int .i64 dn] ∧ Box W (w.heap.size + 1 + 1) [.int .i64 0, .int .i64 0, .int .i64 0, .int .i64 0, .int .i64 0, .slice none 0 0] ∧ Below w.heap.size w W) ⟨box_mk.alloc.alloc, box_mid, box_end, bel3 _ _ _ _⟩ (fun W0 hI => ?_)
  have Y : Hid _ := hI
  clear hI
  obtain ⟨a0, a1, a2, a3, a4, a5⟩ := Y.out.1.c6
  go_wp2_with fail
  refine (implG_any lo q p l e o a b c _ hl (hr.out.next Y.out.2.2.2)).mono ?_
  rintro e1 W1 ⟨rfl, hb⟩
  replace Y : Hid (Box W1 w.heap.size [.int .i64 e, .int .i64 o, .int .i64 a, .int .i64 b, .int .i64 c, .slice p l.length q] ∧ Box W1 (w.heap.size + 1) [.int .i64 0, .int .i64 dn] ∧ Box W1 (w.heap.size + 1 + 1) [.int .i64 0, .int .i64 0, .int .i64 0, .int .i64 0, .int .i64 0, .slice none 0 0] ∧ Below w.heap.size w W1) := ⟨Y.out.1.next hb, Y.out.2.1.next hb, Y.out.2.2.1.next hb, Y.out.2.2.2.trans (hb.mono Y.out.2.2.2.size)⟩
  clear hb a0 a1 a2 a3 a4 a5
  rw [hg]
  obtain ⟨d0, d1⟩ := Y.out.2.1.c2
  go_wp2_with fail
  refine (impl_dot 0 dn _).mono ?_
  rintro e1 W2 ⟨rfl, hb⟩
  replace Y : Hid (Box W2 w.heap.size [.int .i64 e, .int .i64 o, .int .i64 a, .int .i64 b, .int .i64 c, .slice p l.length q] ∧ Box W2 (w.heap.size + 1) [.int .i64 0, .int .i64 dn] ∧ Box W2 (w.heap.size + 1 + 1) [.int .i64 0, .int .i64 0, .int .i64 0, .int .i64 0, .int .i64 0, .slice none 0 0] ∧ Below w.heap.size w W2) := ⟨Y.out.1.next hb, Y.out.2.1.next hb, Y.out.2.2.1.next hb, Y.out.2.2.2.trans (hb.mono Y.out.2.2.2.size)⟩
  clear hb d0 d1
  rw [hd]
  have HZ : Hid (w.heap.size + 1 + 1 < W2.heap.size) := Y.out.2.2.1.lt
  obtain ⟨a0, a1, a2, a3, a4, a5⟩ := Y.out.1.c6
  go_wp2_with fail
  refine (copied_any lo q p l e o a b c _ (by omega) (hr.out.next Y.out.2.2.2)).mono ?_
  rintro e1 W3 ⟨po, co, rfl, hO, hb⟩
  replace Y : Hid (Box W3 w.heap.size [.int .i64 e, .int .i64 o, .int .i64 a, .int .i64 b, .int .i64 c, .slice p l.length q] ∧ Box W3 (w.heap.size + 1) [.int .i64 0, .int .i64 dn] ∧ Box W3 (w.heap.size + 1 + 1) [.int .i64 0, .int .i64 0, .int .i64 0, .int .i64 0, .int .i64 0, .slice none 0 0] ∧ Below w.heap.size w W3) := ⟨Y.out.1.next hb, Y.out.2.1.next hb, Y.out.2.2.1.next hb, Y.out.2.2.2.trans (hb.mono Y.out.2.2.2.size)⟩
  have HO : Hid (OwnG W3 31 2 (.slice po l.length co) l.length (flatD l) W2.heap.size ∧ w.heap.size + 1 + 1 < W2.heap.size ∧ W2.heap.size ≤ W3.heap.size) := ⟨hO, by have := Y.out.2.2.1; exact HZ.out, hb.size⟩
  clear hb hO a0 a1 a2 a3 a4 a5 hr
  generalize W2.heap.size = lv at *
  go_upto_region 4 with fail
  refine wp_gen (fun W => Box W (w.heap.size + 1) [.int .i64 0, .int .i64 dn] ∧ Box W (w.heap.size + 1 + 1) [.int .i64 0, .int .i64 0, .int .i64 0, .int .i64 0, .int .i64 0, .slice none 0 0] ∧ Below w.heap.size w W ∧ OwnG W 31 2 (.slice po l.length co) l.length (flatD l) lv ∧ w.heap.size + 1 + 1 < lv ∧ Box W W3.heap.size [.int .i64 e, .int .i64 o, .int .i64 a, .int .i64 b, .int .i64 c, .slice po l.length co] ∧ lv ≤ W3.heap.size ∧ (∀ k, (Value.slice po l.length co).ownBlock = some k → ¬ k = W3.heap.size)) ⟨Y.out.2.1.alloc, Y.out.2.2.1.alloc, Y.out.2.2.2.trans ((bel_alloc _ _).mono Y.out.2.2.2.size), HO.out.1.next (bel_alloc _ _), HO.out.2.1, box_mk, HO.out.2.2, fun k hk => by have := (HO.out.1.own.lt k hk).2; omega⟩ (fun W4 hI => ?_)
  clear Y HO HZ
  have Y : Hid (Box W4 (w.heap.size + 1) [.int .i64 0, .int .i64 dn] ∧ Box W4 (w.heap.size + 1 + 1) [.int .i64 0, .int .i64 0, .int .i64 0, .int .i64 0, .int .i64 0, .slice none 0 0] ∧ Below w.heap.size w W4 ∧ OwnG W4 31 2 (.slice po l.length co) l.length (flatD l) lv ∧ w.heap.size + 1 + 1 < lv ∧ Box W4 W3.heap.size [.int .i64 e, .int .i64 o, .int .i64 a, .int .i64 b, .int .i64 c, .slice po l.length co] ∧ lv ≤ W3.heap.size ∧ (∀ k, (Value.slice po l.length co).ownBlock = some k → ¬ k = W3.heap.size)) := hI
  clear hI
  generalize W3.heap.size = ga at *
  obtain ⟨a0, a1, a2, a3, a4, a5⟩ := Y.out.2.2.2.2.2.1.c6
  obtain ⟨d0, d1⟩ := Y.out.1.c2
  go_wp2_with fail
  refine (knows_0false a b c dn _ h1).mono ?_
  rintro e1 W5 ⟨rfl, hb⟩
  replace Y : Hid (Box W5 (w.heap.size + 1) [.int .i64 0, .int .i64 dn] ∧ Box W5 (w.heap.size + 1 + 1) [.int .i64 0, .int .i64 0, .int .i64 0, .int .i64 0, .int .i64 0, .slice none 0 0] ∧ Below w.heap.size w W5 ∧ OwnG W5 31 2 (.slice po l.length co) l.length (flatD l) lv ∧ w.heap.size + 1 + 1 < lv ∧ Box W5 ga [.int .i64 e, .int .i64 o, .int .i64 a, .int .i64 b, .int .i64 c, .slice po l.length co] ∧ lv ≤ ga ∧ (∀ k, (Value.slice po l.length co).ownBlock = some k → ¬ k = ga)) := ⟨Y.out.1.next hb, Y.out.2.1.next hb, Y.out.2.2.1.trans (hb.mono Y.out.2.2.1.size), Y.out.2.2.2.1.next hb, Y.out.2.2.2.2.1, Y.out.2.2.2.2.2.1.next hb, Y.out.2.2.2.2.2.2.1, Y.out.2.2.2.2.2.2.2⟩
  clear hb a0 a1 a2 a3 a4 a5 d0 d1
  obtain ⟨a0, a1, a2, a3, a4, a5⟩ := Y.out.2.2.2.2.2.1.c6
  obtain ⟨d0, d1⟩ := Y.out.1.c2
  obtain ⟨b0, b1, b2, b3, b4, b5⟩ := Y.out.2.1.c6
  obtain ⟨f0, f1, f2, f3, f4, f5⟩ := Y.out.2.1.f6
  go_wp2_with fail
  go_quiet (fail)
  rename_i nq _
  go_wp2_with fail
  have hb : Below W5.heap.size W5 _ := below_drewN (Below.refl _ _) nq
  replace Y : Hid (_ ∧ _ ∧ _ ∧ _ ∧ _ ∧ _ ∧ _ ∧ _) := ⟨Y.out.1.next hb, Y.out.2.1.next hb, Y.out.2.2.1.trans (hb.mono Y.out.2.2.1.size), Y.out.2.2.2.1.next hb, Y.out.2.2.2.2.1, Y.out.2.2.2.2.2.1.next hb, Y.out.2.2.2.2.2.2.1, Y.out.2.2.2.2.2.2.2⟩
  clear hb
  clear a0 a1 a2 a3 a4 a5 d0 d1 b0 b1 b2 b3 b4 b5 f0 f1 f2 f3 f4 f5
  have hlt := Y.out.2.2.2.2.1
  have q0 : ∀ k, (Value.slice po l.length co).ownBlock = some k → ¬ k = w.heap.size + 1 + 1 := fun k hk => by have := Y.out.2.2.2.1.ge k hk; omega
  have Z := Y.out.2.1.s6 (u0 := .int .i64 e) (u1 := .int .i64 o) (u2 := .int .i64 a) (u3 := .int .i64 b) (u4 := .int .i64 c) (u5 := .slice po l.length co)
  obtain ⟨z0, z1, z2, z3, z4, z5⟩ := Z.c6
  clear Z
  refine bodyPost_ret (v := .tuple #[.agg #[.int .i64 e, .int .i64 o, .int .i64 a, .int .i64 b, .int .i64 c, .slice po l.length co], .bool false, .int .i64 17]) (by simp [results, Try.results10, go_sem, z0, z1, z2, z3, z4, z5]) rfl ?_
  have HBL : Below w.heap.size w _ := bel_in (bel_in (bel_in (bel_in (bel_in (bel_in Y.out.2.2.1 (i := 0) (u := .int .i64 e) (g := (w.heap.size + 1 + 1)) (by omega)) (i := 1) (u := .int .i64 o) (g := (w.heap.size + 1 + 1)) (by omega)) (i := 2) (u := .int .i64 a) (g := (w.heap.size + 1 + 1)) (by omega)) (i := 3) (u := .int .i64 b) (g := (w.heap.size + 1 + 1)) (by omega)) (i := 4) (u := .int .i64 c) (g := (w.heap.size + 1 + 1)) (by omega)) (i := 5) (u := .slice po l.length co) (g := (w.heap.size + 1 + 1)) (by omega)
  exact ⟨po, co, rfl, (OwnG.mr ((((((Y.out.2.2.2.1.kp Kp.set q0).kp Kp.set q0).kp Kp.set q0).kp Kp.set q0).kp Kp.set q0).kp Kp.set q0)).weak (by omega), HBL⟩

set_option maxRecDepth 20000 in
set_option maxHeartbeats 4000000 in
theorem implA_full0 (lo q : Nat) (p : Option Addr) (l : List Dt) (e o a b c : Int) (w : World) (hl : (l.length : Int) ≤ 1048576) (hr0 : GRow lo w p (flatD l)) (hg : gokB e o a b c l = true) (hd : dotB 0 (a + 1) = true) (hx : 0 ≤ a ∧ a ≤ 9999) (h2 : l.length = 4096) :
    Calls Try.prog 10 #[.agg #[.int .i64 e, .int .i64 o, .int .i64 a, .int .i64 b, .int .i64 c, .slice p l.length q], .int .i64 e, .agg #[.int .i64 0, .int .i64 (a + 1)]] w (AP w false 7 e o a b c l) := by
  have hw : IntKind.i64.wrap (a + 1) = a + 1 := by rw [IntKind.wrap_i64]; omega
  have h3 : (4096 : Int) ≤ (l.length : Int) := by omega
  clear h2
  have hr : Hid (GRow lo w p (flatD l)) := hr0
  clear hr0
  go_enter Try.func10, Try.ntmps10
  go_upto_region 1 with fail
  refine wp_gen (fun W => Box W w.heap.size [.int .i64 e, .int .i64 o, .int .i64 a, .int .i64 b, .int .i64 c, .slice p l.length q] ∧ Box W (w.heap.size + 1) [.int .i64 0, .int .i64 (a + 1)] ∧ Box W (w.heap.size + 1 + 1) [.int .i64 0, .int .i64 0, .int .i64 0, .int .i64 0, .int .i64 0, .slice none 0 0] ∧ Below w.heap.size w W) ⟨box_mk.alloc.alloc, box_mid, box_end, bel3 _ _ _ _⟩ (fun W0 hI => ?_)
  have Y : Hid _ := hI
  clear hI
  obtain ⟨a0, a1, a2, a3, a4, a5⟩ := Y.out.1.c6
  go_wp2_with fail
  refine (implG_any lo q p l e o a b c _ hl (hr.out.next Y.out.2.2.2)).mono ?_
  rintro e1 W1 ⟨rfl, hb⟩
  replace Y : Hid (Box W1 w.heap.size [.int .i64 e, .int .i64 o, .int .i64 a, .int .i64 b, .int .i64 c, .slice p l.length q] ∧ Box W1 (w.heap.size + 1) [.int .i64 0, .int .i64 (a + 1)] ∧ Box W1 (w.heap.size + 1 + 1) [.int .i64 0, .int .i64 0, .int .i64 0, .int .i64 0, .int .i64 0, .slice none 0 0] ∧ Below w.heap.size w W1) := ⟨Y.out.1.next hb, Y.out.2.1.next hb, Y.out.2.2.1.next hb, Y.out.2.2.2.trans (hb.mono Y.out.2.2.2.size)⟩
  clear hb a0 a1 a2 a3 a4 a5
  rw [hg]
  obtain ⟨d0, d1⟩ := Y.out.2.1.c2
  go_wp2_with fail
  refine (impl_dot 0 (a + 1) _).mono ?_
  rintro e1 W2 ⟨rfl, hb⟩
  replace Y : Hid (Box W2 w.heap.size [.int .i64 e, .int .i64 o, .int .i64 a, .int .i64 b, .int .i64 c, .slice p l.length q] ∧ Box W2 (w.heap.size + 1) [.int .i64 0, .int .i64 (a + 1)] ∧ Box W2 (w.heap.size + 1 + 1) [.int .i64 0, .int .i64 0, .int .i64 0, .int .i64 0, .int .i64 0, .slice none 0 0] ∧ Below w.heap.size w W2) := ⟨Y.out.1.next hb, Y.out.2.1.next hb, Y.out.2.2.1.next hb, Y.out.2.2.2.trans (hb.mono Y.out.2.2.2.size)⟩
  clear hb d0 d1
  rw [hd]
  have HZ : Hid (w.heap.size + 1 + 1 < W2.heap.size) := Y.out.2.2.1.lt
  obtain ⟨a0, a1, a2, a3, a4, a5⟩ := Y.out.1.c6
  go_wp2_with fail
  refine (copied_any lo q p l e o a b c _ (by omega) (hr.out.next Y.out.2.2.2)).mono ?_
  rintro e1 W3 ⟨po, co, rfl, hO, hb⟩
  replace Y : Hid (Box W3 w.heap.size [.int .i64 e, .int .i64 o, .int .i64 a, .int .i64 b, .int .i64 c, .slice p l.length q] ∧ Box W3 (w.heap.size + 1) [.int .i64 0, .int .i64 (a + 1)] ∧ Box W3 (w.heap.size + 1 + 1) [.int .i64 0, .int .i64 0, .int .i64 0, .int .i64 0, .int .i64 0, .slice none 0 0] ∧ Below w.heap.size w W3) := ⟨Y.out.1.next hb, Y.out.2.1.next hb, Y.out.2.2.1.next hb, Y.out.2.2.2.trans (hb.mono Y.out.2.2.2.size)⟩
  have HO : Hid (OwnG W3 31 2 (.slice po l.length co) l.length (flatD l) W2.heap.size ∧ w.heap.size + 1 + 1 < W2.heap.size ∧ W2.heap.size ≤ W3.heap.size) := ⟨hO, by have := Y.out.2.2.1; exact HZ.out, hb.size⟩
  clear hb hO a0 a1 a2 a3 a4 a5 hr
  generalize W2.heap.size = lv at *
  go_upto_region 4 with fail
  refine wp_gen (fun W => Box W (w.heap.size + 1) [.int .i64 0, .int .i64 (a + 1)] ∧ Box W (w.heap.size + 1 + 1) [.int .i64 0, .int .i64 0, .int .i64 0, .int .i64 0, .int .i64 0, .slice none 0 0] ∧ Below w.heap.size w W ∧ OwnG W 31 2 (.slice po l.length co) l.length (flatD l) lv ∧ w.heap.size + 1 + 1 < lv ∧ Box W W3.heap.size [.int .i64 e, .int .i64 o, .int .i64 a, .int .i64 b, .int .i64 c, .slice po l.length co] ∧ lv ≤ W3.heap.size ∧ (∀ k, (Value.slice po l.length co).ownBlock = some k → ¬ k = W3.heap.size)) ⟨Y.out.2.1.alloc, Y.out.2.2.1.alloc, Y.out.2.2.2.trans ((bel_alloc _ _).mono Y.out.2.2.2.size), HO.out.1.next (bel_alloc _ _), HO.out.2.1, box_mk, HO.out.2.2, fun k hk => by have := (HO.out.1.own.lt k hk).2; omega⟩ (fun W4 hI => ?_)
  clear Y HO HZ
  have Y : Hid (Box W4 (w.heap.size + 1) [.int .i64 0, .int .i64 (a + 1)] ∧ Box W4 (w.heap.size + 1 + 1) [.int .i64 0, .int .i64 0, .int .i64 0, .int .i64 0, .int .i64 0, .slice none 0 0] ∧ Below w.heap.size w W4 ∧ OwnG W4 31 2 (.slice po l.length co) l.length (flatD l) lv ∧ w.heap.size + 1 + 1 < lv ∧ Box W4 W3.heap.size [.int .i64 e, .int .i64 o, .int .i64 a, .int .i64 b, .int .i64 c, .slice po l.length co] ∧ lv ≤ W3.heap.size ∧ (∀ k, (Value.slice po l.length co).ownBlock = some k → ¬ k = W3.heap.size)) := hI
  clear hI
  generalize W3.heap.size = ga at *
  obtain ⟨a0, a1, a2, a3, a4, a5⟩ := Y.out.2.2.2.2.2.1.c6
  obtain ⟨d0, d1⟩ := Y.out.1.c2
  go_wp2_with fail
  refine (knows_0false a b c (a + 1) _ (by omega)).mono ?_
  rintro e1 W5 ⟨rfl, hb⟩
  replace Y : Hid (Box W5 (w.heap.size + 1) [.int .i64 0, .int .i64 (a + 1)] ∧ Box W5 (w.heap.size + 1 + 1) [.int .i64 0, .int .i64 0, .int .i64 0, .int .i64 0, .int .i64 0, .slice none 0 0] ∧ Below w.heap.size w W5 ∧ OwnG W5 31 2 (.slice po l.length co) l.length (flatD l) lv ∧ w.heap.size + 1 + 1 < lv ∧ Box W5 ga [.int .i64 e, .int .i64 o, .int .i64 a, .int .i64 b, .int .i64 c, .slice po l.length co] ∧ lv ≤ ga ∧ (∀ k, (Value.slice po l.length co).ownBlock = some k → ¬ k = ga)) := ⟨Y.out.1.next hb, Y.out.2.1.next hb, Y.out.2.2.1.trans (hb.mono Y.out.2.2.1.size), Y.out.2.2.2.1.next hb, Y.out.2.2.2.2.1, Y.out.2.2.2.2.2.1.next hb, Y.out.2.2.2.2.2.2.1, Y.out.2.2.2.2.2.2.2⟩
  clear hb a0 a1 a2 a3 a4 a5 d0 d1
  obtain ⟨a0, a1, a2, a3, a4, a5⟩ := Y.out.2.2.2.2.2.1.c6
  obtain ⟨d0, d1⟩ := Y.out.1.c2
  obtain ⟨b0, b1, b2, b3, b4, b5⟩ := Y.out.2.1.c6
  obtain ⟨f0, f1, f2, f3, f4, f5⟩ := Y.out.2.1.f6
  go_wp2_with fail
  go_quiet (fail)
  rename_i nq _
  go_wp2_with fail
  have hb : Below W5.heap.size W5 _ := below_drewN (Below.refl _ _) nq
  replace Y : Hid (_ ∧ _ ∧ _ ∧ _ ∧ _ ∧ _ ∧ _ ∧ _) := ⟨Y.out.1.next hb, Y.out.2.1.next hb, Y.out.2.2.1.trans (hb.mono Y.out.2.2.1.size), Y.out.2.2.2.1.next hb, Y.out.2.2.2.2.1, Y.out.2.2.2.2.2.1.next hb, Y.out.2.2.2.2.2.2.1, Y.out.2.2.2.2.2.2.2⟩
  clear hb
  clear a0 a1 a2 a3 a4 a5 d0 d1 b0 b1 b2 b3 b4 b5 f0 f1 f2 f3 f4 f5
  have hlt := Y.out.2.2.2.2.1
  have q0 : ∀ k, (Value.slice po l.length co).ownBlock = some k → ¬ k = w.heap.size + 1 + 1 := fun k hk => by have := Y.out.2.2.2.1.ge k hk; omega
  have Z := Y.out.2.1.s6 (u0 := .int .i64 e) (u1 := .int .i64 o) (u2 := .int .i64 a) (u3 := .int .i64 b) (u4 := .int .i64 c) (u5 := .slice po l.length co)
  obtain ⟨z0, z1, z2, z3, z4, z5⟩ := Z.c6
  clear Z
  refine bodyPost_ret (v := .tuple #[.agg #[.int .i64 e, .int .i64 o, .int .i64 a, .int .i64 b, .int .i64 c, .slice po l.length co], .bool false, .int .i64 7]) (by simp [results, Try.results10, go_sem, z0, z1, z2, z3, z4, z5]) rfl ?_
  have HBL : Below w.heap.size w _ := bel_in (bel_in (bel_in (bel_in (bel_in (bel_in Y.out.2.2.1 (i := 0) (u := .int .i64 e) (g := (w.heap.size + 1 + 1)) (by omega)) (i := 1) (u := .int .i64 o) (g := (w.heap.size + 1 + 1)) (by omega)) (i := 2) (u := .int .i64 a) (g := (w.heap.size + 1 + 1)) (by omega)) (i := 3) (u := .int .i64 b) (g := (w.heap.size + 1 + 1)) (by omega)) (i := 4) (u := .int .i64 c) (g := (w.heap.size + 1 + 1)) (by omega)) (i := 5) (u := .slice po l.length co) (g := (w.heap.size + 1 + 1)) (by omega)
  exact ⟨po, co, rfl, (OwnG.mr ((((((Y.out.2.2.2.1.kp Kp.set q0).kp Kp.set q0).kp Kp.set q0).kp Kp.set q0).kp Kp.set q0).kp Kp.set q0)).weak (by omega), HBL⟩

set_option maxRecDepth 20000 in
set_option maxHeartbeats 4000000 in
theorem implA_ok0 (lo q : Nat) (p : Option Addr) (l : List Dt) (e o a b c : Int) (w : World) (hl : (l.length : Int) ≤ 1048576) (hr0 : GRow lo w p (flatD l)) (hg : gokB e o a b c l = true) (hd : dotB 0 (a + 1) = true) (hx : 0 ≤ a ∧ a ≤ 9999) (h2 : l.length < 4096) :
    Calls Try.prog 10 #[.agg #[.int .i64 e, .int .i64 o, .int .i64 a, .int .i64 b, .int .i64 c, .slice p l.length q], .int .i64 e, .agg #[.int .i64 0, .int .i64 (a + 1)]] w (AP w true 0 e o (a + 1) b c (l ++ [⟨0, a + 1⟩])) := by
  have hw : IntKind.i64.wrap (a + 1) = a + 1 := by rw [IntKind.wrap_i64]; omega
  have h3 : ¬ (4096 : Int) ≤ (l.length : Int) := by omega
  have hr : Hid (GRow lo w p (flatD l)) := hr0
  clear hr0
  go_enter Try.func10, Try.ntmps10
  go_upto_region 1 with fail
  refine wp_gen (fun W => Box W w.heap.size [.int .i64 e, .int .i64 o, .int .i64 a, .int .i64 b, .int .i64 c, .slice p l.length q] ∧ Box W (w.heap.size + 1) [.int .i64 0, .int .i64 (a + 1)] ∧ Box W (w.heap.size + 1 + 1) [.int .i64 0, .int .i64 0, .int .i64 0, .int .i64 0, .int .i64 0, .slice none 0 0] ∧ Below w.heap.size w W) ⟨box_mk.alloc.alloc, box_mid, box_end, bel3 _ _ _ _⟩ (fun W0 hI => ?_)
  have Y : Hid _ := hI
  clear hI
  obtain ⟨a0, a1, a2, a3, a4, a5⟩ := Y.out.1.c6
  go_wp2_with fail
  refine (implG_any lo q p l e o a b c _ hl (hr.out.next Y.out.2.2.2)).mono ?_
  rintro e1 W1 ⟨rfl, hb⟩
  replace Y : Hid (Box W1 w.heap.size [.int .i64 e, .int .i64 o, .int .i64 a, .int .i64 b, .int .i64 c, .slice p l.length q] ∧ Box W1 (w.heap.size + 1) [.int .i64 0, .int .i64 (a + 1)] ∧ Box W1 (w.heap.size + 1 + 1) [.int .i64 0, .int .i64 0, .int .i64 0, .int .i64 0, .int .i64 0, .slice none 0 0] ∧ Below w.heap.size w W1) := ⟨Y.out.1.next hb, Y.out.2.1.next hb, Y.out.2.2.1.next hb, Y.out.2.2.2.trans (hb.mono Y.out.2.2.2.size)⟩
  clear hb a0 a1 a2 a3 a4 a5
  rw [hg]
  obtain ⟨d0, d1⟩ := Y.out.2.1.c2
  go_wp2_with fail
  refine (impl_dot 0 (a + 1) _).mono ?_
  rintro e1 W2 ⟨rfl, hb⟩
  replace Y : Hid (Box W2 w.heap.size [.int .i64 e, .int .i64 o, .int .i64 a, .int .i64 b, .int .i64 c, .slice p l.length q] ∧ Box W2 (w.heap.size + 1) [.int .i64 0, .int .i64 (a + 1)] ∧ Box W2 (w.heap.size + 1 + 1) [.int .i64 0, .int .i64 0, .int .i64 0, .int .i64 0, .int .i64 0, .slice none 0 0] ∧ Below w.heap.size w W2) := ⟨Y.out.1.next hb, Y.out.2.1.next hb, Y.out.2.2.1.next hb, Y.out.2.2.2.trans (hb.mono Y.out.2.2.2.size)⟩
  clear hb d0 d1
  rw [hd]
  have HZ : Hid (w.heap.size + 1 + 1 < W2.heap.size) := Y.out.2.2.1.lt
  obtain ⟨a0, a1, a2, a3, a4, a5⟩ := Y.out.1.c6
  go_wp2_with fail
  refine (copied_any lo q p l e o a b c _ (by omega) (hr.out.next Y.out.2.2.2)).mono ?_
  rintro e1 W3 ⟨po, co, rfl, hO, hb⟩
  replace Y : Hid (Box W3 w.heap.size [.int .i64 e, .int .i64 o, .int .i64 a, .int .i64 b, .int .i64 c, .slice p l.length q] ∧ Box W3 (w.heap.size + 1) [.int .i64 0, .int .i64 (a + 1)] ∧ Box W3 (w.heap.size + 1 + 1) [.int .i64 0, .int .i64 0, .int .i64 0, .int .i64 0, .int .i64 0, .slice none 0 0] ∧ Below w.heap.size w W3) := ⟨Y.out.1.next hb, Y.out.2.1.next hb, Y.out.2.2.1.next hb, Y.out.2.2.2.trans (hb.mono Y.out.2.2.2.size)⟩
  have HO : Hid (OwnG W3 31 2 (.slice po l.length co) l.length (flatD l) W2.heap.size ∧ w.heap.size + 1 + 1 < W2.heap.size ∧ W2.heap.size ≤ W3.heap.size) := ⟨hO, by have := Y.out.2.2.1; exact HZ.out, hb.size⟩
  clear hb hO a0 a1 a2 a3 a4 a5 hr
  generalize W2.heap.size = lv at *
  go_upto_region 4 with fail
  refine wp_gen (fun W => Box W (w.heap.size + 1) [.int .i64 0, .int .i64 (a + 1)] ∧ Box W (w.heap.size + 1 + 1) [.int .i64 0, .int .i64 0, .int .i64 0, .int .i64 0, .int .i64 0, .slice none 0 0] ∧ Below w.heap.size w W ∧ OwnG W 31 2 (.slice po l.length co) l.length (flatD l) lv ∧ w.heap.size + 1 + 1 < lv ∧ Box W W3.heap.size [.int .i64 e, .int .i64 o, .int .i64 a, .int .i64 b, .int .i64 c, .slice po l.length co] ∧ lv ≤ W3.heap.size ∧ (∀ k, (Value.slice po l.length co).ownBlock = some k → ¬ k = W3.heap.size)) ⟨Y.out.2.1.alloc, Y.out.2.2.1.alloc, Y.out.2.2.2.trans ((bel_alloc _ _).mono Y.out.2.2.2.size), HO.out.1.next (bel_alloc _ _), HO.out.2.1, box_mk, HO.out.2.2, fun k hk => by have := (HO.out.1.own.lt k hk).2; omega⟩ (fun W4 hI => ?_)
  clear Y HO HZ
  have Y : Hid (Box W4 (w.heap.size + 1) [.int .i64 0, .int .i64 (a + 1)] ∧ Box W4 (w.heap.size + 1 + 1) [.int .i64 0, .int .i64 0, .int .i64 0, .int .i64 0, .int .i64 0, .slice none 0 0] ∧ Below w.heap.size w W4 ∧ OwnG W4 31 2 (.slice po l.length co) l.length (flatD l) lv ∧ w.heap.size + 1 + 1 < lv ∧ Box W4 W3.heap.size [.int .i64 e, .int .i64 o, .int .i64 a, .int .i64 b, .int .i64 c, .slice po l.length co] ∧ lv ≤ W3.heap.size ∧ (∀ k, (Value.slice po l.length co).ownBlock = some k → ¬ k = W3.heap.size)) := hI
  clear hI
  generalize W3.heap.size = ga at *
  obtain ⟨a0, a1, a2, a3, a4, a5⟩ := Y.out.2.2.2.2.2.1.c6
  obtain ⟨d0, d1⟩ := Y.out.1.c2
  go_wp2_with fail
  refine (knows_0false a b c (a + 1) _ (by omega)).mono ?_
  rintro e1 W5 ⟨rfl, hb⟩
  replace Y : Hid (Box W5 (w.heap.size + 1) [.int .i64 0, .int .i64 (a + 1)] ∧ Box W5 (w.heap.size + 1 + 1) [.int .i64 0, .int .i64 0, .int .i64 0, .int .i64 0, .int .i64 0, .slice none 0 0] ∧ Below w.heap.size w W5 ∧ OwnG W5 31 2 (.slice po l.length co) l.length (flatD l) lv ∧ w.heap.size + 1 + 1 < lv ∧ Box W5 ga [.int .i64 e, .int .i64 o, .int .i64 a, .int .i64 b, .int .i64 c, .slice po l.length co] ∧ lv ≤ ga ∧ (∀ k, (Value.slice po l.length co).ownBlock = some k → ¬ k = ga)) := ⟨Y.out.1.next hb, Y.out.2.1.next hb, Y.out.2.2.1.trans (hb.mono Y.out.2.2.1.size), Y.out.2.2.2.1.next hb, Y.out.2.2.2.2.1, Y.out.2.2.2.2.2.1.next hb, Y.out.2.2.2.2.2.2.1, Y.out.2.2.2.2.2.2.2⟩
  clear hb a0 a1 a2 a3 a4 a5 d0 d1
  obtain ⟨a0, a1, a2, a3, a4, a5⟩ := Y.out.2.2.2.2.2.1.c6
  obtain ⟨d0, d1⟩ := Y.out.1.c2
  obtain ⟨g0, g1, g2, g3, g4, g5⟩ := Y.out.2.2.2.2.2.1.f6
  go_wp2_with fail
  go_quiet (fail)
  rename_i nq _
  go_upto_region 13 with fail
  clear a0 a1 a2 a3 a4 a5 d0 d1 g0 g1 g2 g3 g4 g5
  have hb : Below W5.heap.size W5 _ := below_drewN (Below.refl _ _) nq
  replace Y : Hid (_ ∧ _ ∧ _ ∧ _ ∧ _ ∧ _ ∧ _ ∧ _) := ⟨Y.out.1.next hb, Y.out.2.1.next hb, Y.out.2.2.1.trans (hb.mono Y.out.2.2.1.size), Y.out.2.2.2.1.next hb, Y.out.2.2.2.2.1, Y.out.2.2.2.2.2.1.next hb, Y.out.2.2.2.2.2.2.1, Y.out.2.2.2.2.2.2.2⟩
  clear hb
  refine wp_gen (fun W => Box W (w.heap.size + 1) [.int .i64 0, .int .i64 (a + 1)] ∧ Box W (w.heap.size + 1 + 1) [.int .i64 0, .int .i64 0, .int .i64 0, .int .i64 0, .int .i64 0, .slice none 0 0] ∧ Below w.heap.size w W ∧ OwnG W 31 2 (.slice po l.length co) l.length (flatD l) lv ∧ w.heap.size + 1 + 1 < lv ∧ Box W ga [.int .i64 e, .int .i64 o, .int .i64 (a + 1), .int .i64 b, .int .i64 c, .slice po l.length co] ∧ lv ≤ ga ∧ (∀ k, (Value.slice po l.length co).ownBlock = some k → ¬ k = ga)) ?_ (fun W6 hI => ?_)
  · have hlt := Y.out.2.2.2.2.1
    have hga := Y.out.2.2.2.2.2.2.1
    refine ⟨Y.out.1.oth (by omega), Y.out.2.1.oth (by omega), bel_in Y.out.2.2.1 (by omega), Y.out.2.2.2.1.kp Kp.set Y.out.2.2.2.2.2.2.2, hlt, ?_, hga, Y.out.2.2.2.2.2.2.2⟩
    have := Y.out.2.2.2.2.2.1.set (i := 2) (u := .int .i64 (a + 1)) (by simp)
    simpa using this
  clear Y
  have Y : Hid (Box W6 (w.heap.size + 1) [.int .i64 0, .int .i64 (a + 1)] ∧ Box W6 (w.heap.size + 1 + 1) [.int .i64 0, .int .i64 0, .int .i64 0, .int .i64 0, .int .i64 0, .slice none 0 0] ∧ Below w.heap.size w W6 ∧ OwnG W6 31 2 (.slice po l.length co) l.length (flatD l) lv ∧ w.heap.size + 1 + 1 < lv ∧ Box W6 ga [.int .i64 e, .int .i64 o, .int .i64 (a + 1), .int .i64 b, .int .i64 c, .slice po l.length co] ∧ lv ≤ ga ∧ (∀ k, (Value.slice po l.length co).ownBlock = some k → ¬ k = ga)) := hI
  clear hI
  have B1 : Hid (Box (W6.alloc (.cells #[.int .i64 0, .int .i64 (a + 1)] 31)) W6.heap.size [.int .i64 0, .int .i64 (a + 1)] ∧ OwnG (W6.alloc (.cells #[.int .i64 0, .int .i64 (a + 1)] 31)) 31 2 (.slice po l.length co) l.length (flatD l) lv ∧ Below w.heap.size w W6 ∧ lv ≤ (W6.alloc (.cells #[.int .i64 0, .int .i64 (a + 1)] 31)).heap.size) := ⟨box_mk, Y.out.2.2.2.1.next (bel_alloc _ _), Y.out.2.2.1, by have := Y.out.2.2.2.2.2.1.lt; have := Y.out.2.2.2.2.2.2.1; simp; omega⟩
  have RB : Hid (GRow 0 (W6.alloc (.cells #[.int .i64 0, .int .i64 (a + 1)] 31)) (some ⟨W6.heap.size, 0, none⟩) [.int .i64 0, .int .i64 (a + 1)]) := box_row B1.out.1
  obtain ⟨a0, a1, a2, a3, a4, a5⟩ := Y.out.2.2.2.2.2.1.c6
  obtain ⟨d0, d1⟩ := Y.out.1.c2
  have hl0 := Y.out.2.2.2.2.2.1.lt
  go_wp2_with (first | (at_builtin; refine wpList_appG elD rfl _ _ rfl (.slice po l.length co) l.length (flatD l) lv (l.length + 1) rfl B1.out.2.1 B1.out.2.2.2 (some ⟨W6.heap.size, 0, none⟩) 1 1 [.int .i64 0, .int .i64 (a + 1)] rfl (by simp) (by simp [Value.oneCell']) 0 RB.out (by omega) rfl ?_) | go_in)
  clear a0 a1 a2 a3 a4 a5 d0 d1 hl0
  intro pn cn W7 hO hG _
  have kq : Kp (fun k => (Value.slice po l.length co).ownBlock = some k) (W6.alloc (.cells #[.int .i64 0, .int .i64 (a + 1)] 31)) W7 := Kp.of_gro hG
  have hbl : Below lv W6 W7 := ((bel_alloc W6 (.cells #[.int .i64 0, .int .i64 (a + 1)] 31)).mono (by have := Y.out.2.2.2.2.2.1.lt; have := Y.out.2.2.2.2.2.2.1; omega)).trans (hG.below B1.out.2.2.2 B1.out.2.1.ge)
  have Y2 : Hid (Box W7 (w.heap.size + 1 + 1) [.int .i64 0, .int .i64 0, .int .i64 0, .int .i64 0, .int .i64 0, .slice none 0 0] ∧ Below w.heap.size w W7 ∧ OwnG W7 31 2 (.slice pn (l.length + 1) cn) (l.length + 1) (flatD l ++ [.int .i64 0, .int .i64 (a + 1)]) lv ∧ w.heap.size + 1 + 1 < lv ∧ Box W7 ga [.int .i64 e, .int .i64 o, .int .i64 (a + 1), .int .i64 b, .int .i64 c, .slice po l.length co] ∧ lv ≤ ga ∧ (∀ k, (Value.slice pn (l.length + 1) cn).ownBlock = some k → ¬ k = ga)) := by
    have hlt := Y.out.2.2.2.2.1
    have hga := Y.out.2.2.2.2.2.2.1
    have hgl := Y.out.2.2.2.2.2.1.lt
    refine ⟨Y.out.2.1.bel hbl (by omega), Y.out.2.2.1.trans (hbl.mono (by omega)), hO, hlt, (Y.out.2.2.2.2.2.1.alloc (ob := (.cells #[.int .i64 0, .int .i64 (a + 1)] 31))).kp kq (fun h => Y.out.2.2.2.2.2.2.2 ga h rfl), hga, fun k hk hkg => ?_⟩
    subst hkg
    rcases hG.fresh k hk with h | h
    · exact Y.out.2.2.2.2.2.2.2 k h rfl
    · simp at h; omega
  clear hO hG kq hbl Y B1 RB
  obtain ⟨a0, a1, a2, a3, a4, a5⟩ := Y2.out.2.2.2.2.1.c6
  obtain ⟨g0, g1, g2, g3, g4, g5⟩ := Y2.out.2.2.2.2.1.f6
  go_upto_region 14 with fail
  clear a0 a1 a2 a3 a4 a5 g0 g1 g2 g3 g4 g5
  refine wp_gen (fun W => Box W (w.heap.size + 1 + 1) [.int .i64 0, .int .i64 0, .int .i64 0, .int .i64 0, .int .i64 0, .slice none 0 0] ∧ Below w.heap.size w W ∧ OwnG W 31 2 (.slice pn (l.length + 1) cn) (l.length + 1) (flatD l ++ [.int .i64 0, .int .i64 (a + 1)]) lv ∧ w.heap.size + 1 + 1 < lv ∧ Box W ga [.int .i64 e, .int .i64 o, .int .i64 (a + 1), .int .i64 b, .int .i64 c, .slice pn (l.length + 1) cn]) ?_ (fun W8 hI => ?_)
  · have hlt := Y2.out.2.2.2.1
    have hga := Y2.out.2.2.2.2.2.1
    refine ⟨Y2.out.1.oth (by omega), bel_in Y2.out.2.1 (by omega), Y2.out.2.2.1.kp Kp.set Y2.out.2.2.2.2.2.2, hlt, ?_⟩
    have := Y2.out.2.2.2.2.1.set (i := 5) (u := .slice pn (l.length + 1) cn) (by simp)
    simpa using this
  clear Y2
  have Y : Hid _ := hI
  clear hI
  obtain ⟨a0, a1, a2, a3, a4, a5⟩ := Y.out.2.2.2.2.c6
  obtain ⟨b0, b1, b2, b3, b4, b5⟩ := Y.out.1.c6
  obtain ⟨f0, f1, f2, f3, f4, f5⟩ := Y.out.1.f6
  go_wp2_with fail
  clear a0 a1 a2 a3 a4 a5 b0 b1 b2 b3 b4 b5 f0 f1 f2 f3 f4 f5
  have hlt := Y.out.2.2.2.1
  have q0 : ∀ k, (Value.slice pn (l.length + 1) cn).ownBlock = some k → ¬ k = w.heap.size + 1 + 1 := fun k hk => by have := Y.out.2.2.1.ge k hk; omega
  have Z := Y.out.1.s6 (u0 := .int .i64 e) (u1 := .int .i64 o) (u2 := .int .i64 (a + 1)) (u3 := .int .i64 b) (u4 := .int .i64 c) (u5 := .slice pn (l.length + 1) cn)
  obtain ⟨z0, z1, z2, z3, z4, z5⟩ := Z.c6
  clear Z
  refine bodyPost_ret (v := .tuple #[.agg #[.int .i64 e, .int .i64 o, .int .i64 (a + 1), .int .i64 b, .int .i64 c, .slice pn (l.length + 1) cn], .bool true, .int .i64 0]) (by simp [results, Try.results10, go_sem, z0, z1, z2, z3, z4, z5]) rfl ?_
  have HBL : Below w.heap.size w _ := bel_in (bel_in (bel_in (bel_in (bel_in (bel_in Y.out.2.1 (i := 0) (u := .int .i64 e) (g := (w.heap.size + 1 + 1)) (by omega)) (i := 1) (u := .int .i64 o) (g := (w.heap.size + 1 + 1)) (by omega)) (i := 2) (u := .int .i64 (a + 1)) (g := (w.heap.size + 1 + 1)) (by omega)) (i := 3) (u := .int .i64 b) (g := (w.heap.size + 1 + 1)) (by omega)) (i := 4) (u := .int .i64 c) (g := (w.heap.size + 1 + 1)) (by omega)) (i := 5) (u := .slice pn (l.length + 1) cn) (g := (w.heap.size + 1 + 1)) (by omega)
  have hln : (l ++ [(⟨0, a + 1⟩ : Dt)]).length = l.length + 1 := by simp
  refine ⟨pn, cn, by rw [hln], (OwnG.mr (e := 31) (c := cn) ?_).weak (Nat.le_of_lt (Nat.lt_of_le_of_lt (Nat.le_add_right _ 2) (show w.heap.size + 2 < lv by omega))), HBL⟩
  rw [hln, flatD_app]
  exact (((((Y.out.2.2.1.kp Kp.set q0).kp Kp.set q0).kp Kp.set q0).kp Kp.set q0).kp Kp.set q0).kp Kp.set q0

set_option maxRecDepth 20000 in
set_option maxHeartbeats 4000000 in
theorem implA_order1 (lo q : Nat) (p : Option Addr) (l : List Dt) (e o a b c dn : Int) (w : World) (hl : (l.length : Int) ≤ 1048576) (hr0 : GRow lo w p (flatD l)) (hg : gokB e o a b c l = true) (hd : dotB 1 dn = true) (hx : 0 ≤ b ∧ b ≤ 9999) (h1 : b < dn) (h2 : b + 1 ≠ dn) :
    Calls Try.prog 10 #[.agg #[.int .i64 e, .int .i64 o, .int .i64 a, .int .i64 b, .int .i64 c, .slice p l.length q], .int .i64 e, .agg #[.int .i64 1, .int .i64 dn]] w (AP w false 17 e o a b c l) := by
  have hw : IntKind.i64.wrap (b + 1) = b + 1 := by rw [IntKind.wrap_i64]; omega
  have h3 : (dn == b + 1) = false := beq_eq_false_iff_ne.2 (Ne.symm h2)
  have hr : Hid (GRow lo w p (flatD l)) := hr0
  clear hr0
  go_enter Try.func10, Try.ntmps10
  go_upto_region 1 with fail
  refine wp_gen (fun W => Box W w.heap.size [.int .i64 e, .int .i64 o, .int .i64 a, .int .i64 b, .int .i64 c, .slice p l.length q] ∧ Box W (w.heap.size + 1) [.int .i64 1, .int .i64 dn] ∧ Box W (w.heap.size + 1 + 1) [.int .i64 0, .int .i64 0, .int .i64 0, .int .i64 0, .int .i64 0, .slice none 0 0] ∧ Below w.heap.size w W) ⟨box_mk.alloc.alloc, box_mid, box_end, bel3 _ _ _ _⟩ (fun W0 hI => ?_)
  have Y : Hid _ := hI
  clear hI
  obtain ⟨a0, a1, a2, a3, a4, a5⟩ := Y.out.1.c6
  go_wp2_with fail
  refine (implG_any lo q p l e o a b c _ hl (hr.out.next Y.out.2.2.2)).mono ?_
  rintro e1 W1 ⟨rfl, hb⟩
  replace Y : Hid (Box W1 w.heap.size [.int .i64 e, .int .i64 o, .int .i64 a, .int .i64 b, .int .i64 c, .slice p l.length q] ∧ Box W1 (w.heap.size + 1) [.int .i64 1, .int .i64 dn] ∧ Box W1 (w.heap.size + 1 + 1) [.int .i64 0, .int .i64 0, .int .i64 0, .int .i64 0, .int .i64 0, .slice none 0 0] ∧ Below w.heap.size w W1) := ⟨Y.out.1.next hb, Y.out.2.1.next hb, Y.out.2.2.1.next hb, Y.out.2.2.2.trans (hb.mono Y.out.2.2.2.size)⟩
  clear hb a0 a1 a2 a3 a4 a5
  rw [hg]
  obtain ⟨d0, d1⟩ := Y.out.2.1.c2
  go_wp2_with fail
  refine (impl_dot 1 dn _).mono ?_
  rintro e1 W2 ⟨rfl, hb⟩
  replace Y : Hid (Box W2 w.heap.size [.int .i64 e, .int .i64 o, .int .i64 a, .int .i64 b, .int .i64 c, .slice p l.length q] ∧ Box W2 (w.heap.size + 1) [.int .i64 1, .int .i64 dn] ∧ Box W2 (w.heap.size + 1 + 1) [.int .i64 0, .int .i64 0, .int .i64 0, .int .i64 0, .int .i64 0, .slice none 0 0] ∧ Below w.heap.size w W2) := ⟨Y.out.1.next hb, Y.out.2.1.next hb, Y.out.2.2.1.next hb, Y.out.2.2.2.trans (hb.mono Y.out.2.2.2.size)⟩
  clear hb d0 d1
  rw [hd]
  have HZ : Hid (w.heap.size + 1 + 1 < W2.heap.size) := Y.out.2.2.1.lt
  obtain ⟨a0, a1, a2, a3, a4, a5⟩ := Y.out.1.c6
  go_wp2_with fail
  refine (copied_any lo q p l e o a b c _ (by omega) (hr.out.next Y.out.2.2.2)).mono ?_
  rintro e1 W3 ⟨po, co, rfl, hO, hb⟩
  replace Y : Hid (Box W3 w.heap.size [.int .i64 e, .int .i64 o, .int .i64 a, .int .i64 b, .int .i64 c, .slice p l.length q] ∧ Box W3 (w.heap.size + 1) [.int .i64 1, .int .i64 dn] ∧ Box W3 (w.heap.size + 1 + 1) [.int .i64 0, .int .i64 0, .int .i64 0, .int .i64 0, .int .i64 0, .slice none 0 0] ∧ Below w.heap.size w W3) := ⟨Y.out.1.next hb, Y.out.2.1.next hb, Y.out.2.2.1.next hb, Y.out.2.2.2.trans (hb.mono Y.out.2.2.2.size)⟩
  have HO : Hid (OwnG W3 31 2 (.slice po l.length co) l.length (flatD l) W2.heap.size ∧ w.heap.size + 1 + 1 < W2.heap.size ∧ W2.heap.size ≤ W3.heap.size) := ⟨hO, by have := Y.out.2.2.1; exact HZ.out, hb.size⟩
  clear hb hO a0 a1 a2 a3 a4 a5 hr
  generalize W2.heap.size = lv at *
  go_upto_region 4 with fail
  refine wp_gen (fun W => Box W (w.heap.size + 1) [.int .i64 1, .int .i64 dn] ∧ Box W (w.heap.size + 1 + 1) [.int .i64 0, .int .i64 0, .int .i64 0, .int .i64 0, .int .i64 0, .slice none 0 0] ∧ Below w.heap.size w W ∧ OwnG W 31 2 (.slice po l.length co) l.length (flatD l) lv ∧ w.heap.size + 1 + 1 < lv ∧ Box W W3.heap.size [.int .i64 e, .int .i64 o, .int .i64 a, .int .i64 b, .int .i64 c, .slice po l.length co] ∧ lv ≤ W3.heap.size ∧ (∀ k, (Value.slice po l.length co).ownBlock = some k → ¬ k = W3.heap.size)) ⟨Y.out.2.1.alloc, Y.out.2.2.1.alloc, Y.out.2.2.2.trans ((bel_alloc _ _).mono Y.out.2.2.2.size), HO.out.1.next (bel_alloc _ _), HO.out.2.1, box_mk, HO.out.2.2, fun k hk => by have := (HO.out.1.own.lt k hk).2; omega⟩ (fun W4 hI => ?_)
  clear Y HO HZ
  have Y : Hid (Box W4 (w.heap.size + 1) [.int .i64 1, .int .i64 dn] ∧ Box W4 (w.heap.size + 1 + 1) [.int .i64 0, .int .i64 0, .int .i64 0, .int .i64 0, .int .i64 0, .slice none 0 0] ∧ Below w.heap.size w W4 ∧ OwnG W4 31 2 (.slice po l.length co) l.length (flatD l) lv ∧ w.heap.size + 1 + 1 < lv ∧ Box W4 W3.heap.size [.int .i64 e, .int .i64 o, .int .i64 a, .int .i64 b, .int .i64 c, .slice po l.length co] ∧ lv ≤ W3.heap.size ∧ (∀ k, (Value.slice po l.length co).ownBlock = some k → ¬ k = W3.heap.size)) := hI
  clear hI
  generalize W3.heap.size = ga at *
  obtain ⟨a0, a1, a2, a3, a4, a5⟩ := Y.out.2.2.2.2.2.1.c6
  obtain ⟨d0, d1⟩ := Y.out.1.c2
  go_wp2_with fail
  refine (knows_1false a b c dn _ h1).mono ?_
  rintro e1 W5 ⟨rfl, hb⟩
  replace Y : Hid (Box W5 (w.heap.size + 1) [.int .i64 1, .int .i64 dn] ∧ Box W5 (w.heap.size + 1 + 1) [.int .i64 0, .int .i64 0, .int .i64 0, .int .i64 0, .int .i64 0, .slice none 0 0] ∧ Below w.heap.size w W5 ∧ OwnG W5 31 2 (.slice po l.length co) l.length (flatD l) lv ∧ w.heap.size + 1 + 1 < lv ∧ Box W5 ga [.int .i64 e, .int .i64 o, .int .i64 a, .int .i64 b, .int .i64 c, .slice po l.length co] ∧ lv ≤ ga ∧ (∀ k, (Value.slice po l.length co).ownBlock = some k → ¬ k = ga)) := ⟨Y.out.1.next hb, Y.out.2.1.next hb, Y.out.2.2.1.trans (hb.mono Y.out.2.2.1.size), Y.out.2.2.2.1.next hb, Y.out.2.2.2.2.1, Y.out.2.2.2.2.2.1.next hb, Y.out.2.2.2.2.2.2.1, Y.out.2.2.2.2.2.2.2⟩
  clear hb a0 a1 a2 a3 a4 a5 d0 d1
  obtain ⟨a0, a1, a2, a3, a4, a5⟩ := Y.out.2.2.2.2.2.1.c6
  obtain ⟨d0, d1⟩ := Y.out.1.c2
  obtain ⟨b0, b1, b2, b3, b4, b5⟩ := Y.out.2.1.c6
  obtain ⟨f0, f1, f2, f3, f4, f5⟩ := Y.out.2.1.f6
  go_wp2_with fail
  go_quiet (fail)
  rename_i nq _
  go_wp2_with fail
  have hb : Below W5.heap.size W5 _ := below_drewN (Below.refl _ _) nq
  replace Y : Hid (_ ∧ _ ∧ _ ∧ _ ∧ _ ∧ _ ∧ _ ∧ _) := ⟨Y.out.1.next hb, Y.out.2.1.next hb, Y.out.2.2.1.trans (hb.mono Y.out.2.2.1.size), Y.out.2.2.2.1.next hb, Y.out.2.2.2.2.1, Y.out.2.2.2.2.2.1.next hb, Y.out.2.2.2.2.2.2.1, Y.out.2.2.2.2.2.2.2⟩
  clear hb
  clear a0 a1 a2 a3 a4 a5 d0 d1 b0 b1 b2 b3 b4 b5 f0 f1 f2 f3 f4 f5
  have hlt := Y.out.2.2.2.2.1
  have q0 : ∀ k, (Value.slice po l.length co).ownBlock = some k → ¬ k = w.heap.size + 1 + 1 := fun k hk => by have := Y.out.2.2.2.1.ge k hk; omega
  have Z := Y.out.2.1.s6 (u0 := .int .i64 e) (u1 := .int .i64 o) (u2 := .int .i64 a) (u3 := .int .i64 b) (u4 := .int .i64 c) (u5 := .slice po l.length co)
  obtain ⟨z0, z1, z2, z3, z4, z5⟩ := Z.c6
  clear Z
  refine bodyPost_ret (v := .tuple #[.agg #[.int .i64 e, .int .i64 o, .int .i64 a, .int .i64 b, .int .i64 c, .slice po l.length co], .bool false, .int .i64 17]) (by simp [results, Try.results10, go_sem, z0, z1, z2, z3, z4, z5]) rfl ?_
  have HBL : Below w.heap.size w _ := bel_in (bel_in (bel_in (bel_in (bel_in (bel_in Y.out.2.2.1 (i := 0) (u := .int .i64 e) (g := (w.heap.size + 1 + 1)) (by omega)) (i := 1) (u := .int .i64 o) (g := (w.heap.size + 1 + 1)) (by omega)) (i := 2) (u := .int .i64 a) (g := (w.heap.size + 1 + 1)) (by omega)) (i := 3) (u := .int .i64 b) (g := (w.heap.size + 1 + 1)) (by omega)) (i := 4) (u := .int .i64 c) (g := (w.heap.size + 1 + 1)) (by omega)) (i := 5) (u := .slice po l.length co) (g := (w.heap.size + 1 + 1)) (by omega)
  exact ⟨po, co, rfl, (OwnG.mr ((((((Y.out.2.2.2.1.kp Kp.set q0).kp Kp.set q0).kp Kp.set q0).kp Kp.set q0).kp Kp.set q0).kp Kp.set q0)).weak (by omega), HBL⟩

set_option maxRecDepth 20000 in
set_option maxHeartbeats 4000000 in
theorem implA_full1 (lo q : Nat) (p : Option Addr) (l : List Dt) (e o a b c : Int) (w : World) (hl : (l.length : Int) ≤ 1048576) (hr0 : GRow lo w p (flatD l)) (hg : gokB e o a b c l = true) (hd : dotB 1 (b + 1) = true) (hx : 0 ≤ b ∧ b ≤ 9999) (h2 : l.length = 4096) :
    Calls Try.prog 10 #[.agg #[.int .i64 e, .int .i64 o, .int .i64 a, .int .i64 b, .int .i64 c, .slice p l.length q], .int .i64 e, .agg #[.int .i64 1, .int .i64 (b + 1)]] w (AP w false 7 e o a b c l) := by
  have hw : IntKind.i64.wrap (b + 1) = b + 1 := by rw [IntKind.wrap_i64]; omega
  have h3 : (4096 : Int) ≤ (l.length : Int) := by omega
  clear h2
  have hr : Hid (GRow lo w p (flatD l)) := hr0
  clear hr0
  go_enter Try.func10, Try.ntmps10
  go_upto_region 1 with fail
  refine wp_gen (fun W => Box W w.heap.size [.int .i64 e, .int .i64 o, .int .i64 a, .int .i64 b, .int .i64 c, .slice p l.length q] ∧ Box W (w.heap.size + 1) [.int .i64 1, .int .i64 (b + 1)] ∧ Box W (w.heap.size + 1 + 1) [.int .i64 0, .int .i64 0, .int .i64 0, .int .i64 0, .int .i64 0, .slice none 0 0] ∧ Below w.heap.size w W) ⟨box_mk.alloc.alloc, box_mid, box_end, bel3 _ _ _ _⟩ (fun W0 hI => ?_)
  have Y : Hid _ := hI
  clear hI
  obtain ⟨a0, a1, a2, a3, a4, a5⟩ := Y.out.1.c6
  go_wp2_with fail
  refine (implG_any lo q p l e o a b c _ hl (hr.out.next Y.out.2.2.2)).mono ?_
  rintro e1 W1 ⟨rfl, hb⟩
  replace Y : Hid (Box W1 w.heap.size [.int .i64 e, .int .i64 o, .int .i64 a, .int .i64 b, .int .i64 c, .slice p l.length q] ∧ Box W1 (w.heap.size + 1) [.int .i64 1, .int .i64 (b + 1)] ∧ Box W1 (w.heap.size + 1 + 1) [.int .i64 0, .int .i64 0, .int .i64 0, .int .i64 0, .int .i64 0, .slice none 0 0] ∧ Below w.heap.size w W1) := ⟨Y.out.1.next hb, Y.out.2.1.next hb, Y.out.2.2.1.next hb, Y.out.2.2.2.trans (hb.mono Y.out.2.2.2.size)⟩
  clear hb a0 a1 a2 a3 a4 a5
  rw [hg]
  obtain ⟨d0, d1⟩ := Y.out.2.1.c2
  go_wp2_with fail
  refine (impl_dot 1 (b + 1) _).mono ?_
  rintro e1 W2 ⟨rfl, hb⟩
  replace Y : Hid (Box W2 w.heap.size [.int .i64 e, .int .i64 o, .int .i64 a, .int .i64 b, .int .i64 c, .slice p l.length q] ∧ Box W2 (w.heap.size + 1) [.int .i64 1, .int .i64 (b + 1)] ∧ Box W2 (w.heap.size + 1 + 1) [.int .i64 0, .int .i64 0, .int .i64 0, .int .i64 0, .int .i64 0, .slice none 0 0] ∧ Below w.heap.size w W2) := ⟨Y.out.1.next hb, Y.out.2.1.next hb, Y.out.2.2.1.next hb, Y.out.2.2.2.trans (hb.mono Y.out.2.2.2.size)⟩
  clear hb d0 d1
  rw [hd]
  have HZ : Hid (w.heap.size + 1 + 1 < W2.heap.size) := Y.out.2.2.1.lt
  obtain ⟨a0, a1, a2, a3, a4, a5⟩ := Y.out.1.c6
  go_wp2_with fail
  refine (copied_any lo q p l e o a b c _ (by omega) (hr.out.next Y.out.2.2.2)).mono ?_
  rintro e1 W3 ⟨po, co, rfl, hO, hb⟩
  replace Y : Hid (Box W3 w.heap.size [.int .i64 e, .int .i64 o, .int .i64 a, .int .i64 b, .int .i64 c, .slice p l.length q] ∧ Box W3 (w.heap.size + 1) [.int .i64 1, .int .i64 (b + 1)] ∧ Box W3 (w.heap.size + 1 + 1) [.int .i64 0, .int .i64 0, .int .i64 0, .int .i64 0, .int .i64 0, .slice none 0 0] ∧ Below w.heap.size w W3) := ⟨Y.out.1.next hb, Y.out.2.1.next hb, Y.out.2.2.1.next hb, Y.out.2.2.2.trans (hb.mono Y.out.2.2.2.size)⟩
  have HO : Hid (OwnG W3 31 2 (.slice po l.length co) l.length (flatD l) W2.heap.size ∧ w.heap.size + 1 + 1 < W2.heap.size ∧ W2.heap.size ≤ W3.heap.size) := ⟨hO, by have := Y.out.2.2.1; exact HZ.out, hb.size⟩
  clear hb hO a0 a1 a2 a3 a4 a5 hr
  generalize W2.heap.size = lv at *
  go_upto_region 4 with fail
  refine wp_gen (fun W => Box W (w.heap.size + 1) [.int .i64 1, .int .i64 (b + 1)] ∧ Box W (w.heap.size + 1 + 1) [.int .i64 0, .int .i64 0, .int .i64 0, .int .i64 0, .int .i64 0, .slice none 0 0] ∧ Below w.heap.size w W ∧ OwnG W 31 2 (.slice po l.length co) l.length (flatD l) lv ∧ w.heap.size + 1 + 1 < lv ∧ Box W W3.heap.size [.int .i64 e, .int .i64 o, .int .i64 a, .int .i64 b, .int .i64 c, .slice po l.length co] ∧ lv ≤ W3.heap.size ∧ (∀ k, (Value.slice po l.length co).ownBlock = some k → ¬ k = W3.heap.size)) ⟨Y.out.2.1.alloc, Y.out.2.2.1.alloc, Y.out.2.2.2.trans ((bel_alloc _ _).mono Y.out.2.2.2.size), HO.out.1.next (bel_alloc _ _), HO.out.2.1, box_mk, HO.out.2.2, fun k hk => by have := (HO.out.1.own.lt k hk).2; omega⟩ (fun W4 hI => ?_)
  clear Y HO HZ
  have Y : Hid (Box W4 (w.heap.size + 1) [.int .i64 1, .int .i64 (b + 1)] ∧ Box W4 (w.heap.size + 1 + 1) [.int .i64 0, .int .i64 0, .int .i64 0, .int .i64 0, .int .i64 0, .slice none 0 0] ∧ Below w.heap.size w W4 ∧ OwnG W4 31 2 (.slice po l.length co) l.length (flatD l) lv ∧ w.heap.size + 1 + 1 < lv ∧ Box W4 W3.heap.size [.int .i64 e, .int .i64 o, .int .i64 a, .int .i64 b, .int .i64 c, .slice po l.length co] ∧ lv ≤ W3.heap.size ∧ (∀ k, (Value.slice po l.length co).ownBlock = some k → ¬ k = W3.heap.size)) := hI
  clear hI
  generalize W3.heap.size = ga at *
  obtain ⟨a0, a1, a2, a3, a4, a5⟩ := Y.out.2.2.2.2.2.1.c6
  obtain ⟨d0, d1⟩ := Y.out.1.c2
  go_wp2_with fail
  refine (knows_1false a b c (b + 1) _ (by omega)).mono ?_
  rintro e1 W5 ⟨rfl, hb⟩
  replace Y : Hid (Box W5 (w.heap.size + 1) [.int .i64 1, .int .i64 (b + 1)] ∧ Box W5 (w.heap.size + 1 + 1) [.int .i64 0, .int .i64 0, .int .i64 0, .int .i64 0, .int .i64 0, .slice none 0 0] ∧ Below w.heap.size w W5 ∧ OwnG W5 31 2 (.slice po l.length co) l.length (flatD l) lv ∧ w.heap.size + 1 + 1 < lv ∧ Box W5 ga [.int .i64 e, .int .i64 o, .int .i64 a, .int .i64 b, .int .i64 c, .slice po l.length co] ∧ lv ≤ ga ∧ (∀ k, (Value.slice po l.length co).ownBlock = some k → ¬ k = ga)) := ⟨Y.out.1.next hb, Y.out.2.1.next hb, Y.out.2.2.1.trans (hb.mono Y.out.2.2.1.size), Y.out.2.2.2.1.next hb, Y.out.2.2.2.2.1, Y.out.2.2.2.2.2.1.next hb, Y.out.2.2.2.2.2.2.1, Y.out.2.2.2.2.2.2.2⟩
  clear hb a0 a1 a2 a3 a4 a5 d0 d1
  obtain ⟨a0, a1, a2, a3, a4, a5⟩ := Y.out.2.2.2.2.2.1.c6
  obtain ⟨d0, d1⟩ := Y.out.1.c2
  obtain ⟨b0, b1, b2, b3, b4, b5⟩ := Y.out.2.1.c6
  obtain ⟨f0, f1, f2, f3, f4, f5⟩ := Y.out.2.1.f6
  go_wp2_with fail
  go_quiet (fail)
  rename_i nq _
  go_wp2_with fail
  have hb : Below W5.heap.size W5 _ := below_drewN (Below.refl _ _) nq
  replace Y : Hid (_ ∧ _ ∧ _ ∧ _ ∧ _ ∧ _ ∧ _ ∧ _) := ⟨Y.out.1.next hb, Y.out.2.1.next hb, Y.out.2.2.1.trans (hb.mono Y.out.2.2.1.size), Y.out.2.2.2.1.next hb, Y.out.2.2.2.2.1, Y.out.2.2.2.2.2.1.next hb, Y.out.2.2.2.2.2.2.1, Y.out.2.2.2.2.2.2.2⟩
  clear hb
  clear a0 a1 a2 a3 a4 a5 d0 d1 b0 b1 b2 b3 b4 b5 f0 f1 f2 f3 f4 f5
  have hlt := Y.out.2.2.2.2.1
  have q0 : ∀ k, (Value.slice po l.length co).ownBlock = some k → ¬ k = w.heap.size + 1 + 1 := fun k hk => by have := Y.out.2.2.2.1.ge k hk; omega
  have Z := Y.out.2.1.s6 (u0 := .int .i64 e) (u1 := .int .i64 o) (u2 := .int .i64 a) (u3 := .int .i64 b) (u4 := .int .i64 c) (u5 := .slice po l.length co)
  obtain ⟨z0, z1, z2, z3, z4, z5⟩ := Z.c6
  clear Z
  refine bodyPost_ret (v := .tuple #[.agg #[.int .i64 e, .int .i64 o, .int .i64 a, .int .i64 b, .int .i64 c, .slice po l.length co], .bool false, .int .i64 7]) (by simp [results, Try.results10, go_sem, z0, z1, z2, z3, z4, z5]) rfl ?_
  have HBL : Below w.heap.size w _ := bel_in (bel_in (bel_in (bel_in (bel_in (bel_in Y.out.2.2.1 (i := 0) (u := .int .i64 e) (g := (w.heap.size + 1 + 1)) (by omega)) (i := 1) (u := .int .i64 o) (g := (w.heap.size + 1 + 1)) (by omega)) (i := 2) (u := .int .i64 a) (g := (w.heap.size + 1 + 1)) (by omega)) (i := 3) (u := .int .i64 b) (g := (w.heap.size + 1 + 1)) (by omega)) (i := 4) (u := .int .i64 c) (g := (w.heap.size + 1 + 1)) (by omega)) (i := 5) (u := .slice po l.length co) (g := (w.heap.size + 1 + 1)) (by omega)
  exact ⟨po, co, rfl, (OwnG.mr ((((((Y.out.2.2.2.1.kp Kp.set q0).kp Kp.set q0).kp Kp.set q0).kp Kp.set q0).kp Kp.set q0).kp Kp.set q0)).weak (by omega), HBL⟩

set_option maxRecDepth 20000 in
set_option maxHeartbeats 4000000 in
theorem implA_ok1 (lo q : Nat) (p : Option Addr) (l : List Dt) (e o a b c : Int) (w : World) (hl : (l.length : Int) ≤ 1048576) (hr0 : GRow lo w p (flatD l)) (hg : gokB e o a b c l = true) (hd : dotB 1 (b + 1) = true) (hx : 0 ≤ b ∧ b ≤ 9999) (h2 : l.length < 4096) :
    Calls Try.prog 10 #[.agg #[.int .i64 e, .int .i64 o, .int .i64 a, .int .i64 b, .int .i64 c, .slice p l.length q], .int .i64 e, .agg #[.int .i64 1, .int .i64 (b + 1)]] w (AP w true 0 e o a (b + 1) c (l ++ [⟨1, b + 1⟩])) := by
  have hw : IntKind.i64.wrap (b + 1) = b + 1 := by rw [IntKind.wrap_i64]; omega
  have h3 : ¬ (4096 : Int) ≤ (l.length : Int) := by omega
  have hr : Hid (GRow lo w p (flatD l)) := hr0
  clear hr0
  go_enter Try.func10, Try.ntmps10
  go_upto_region 1 with fail
  refine wp_gen (fun W => Box W w.heap.size [.int .i64 e, .int .i64 o, .int .i64 a, .int .i64 b, .int .i64 c, .slice p l.length q] ∧ Box W (w.heap.size + 1) [.int .i64 1, .int .i64 (b + 1)] ∧ Box W (w.heap.size + 1 + 1) [.int .i64 0, .int .i64 0, .int .i64 0, .int .i64 0, .int .i64 0, .slice none 0 0] ∧ Below w.heap.size w W) ⟨box_mk.alloc.alloc, box_mid, box_end, bel3 _ _ _ _⟩ (fun W0 hI => ?_)
  have Y : Hid _ := hI
  clear hI
  obtain ⟨a0, a1, a2, a3, a4, a5⟩ := Y.out.1.c6
  go_wp2_with fail
  refine (implG_any lo q p l e o a b c _ hl (hr.out.next Y.out.2.2.2)).mono ?_
  rintro e1 W1 ⟨rfl, hb⟩
  replace Y : Hid (Box W1 w.heap.size [.int .i64 e, .int .i64 o, .int .i64 a, .int .i64 b, .int .i64 c, .slice p l.length q] ∧ Box W1 (w.heap.size + 1) [.int .i64 1, .int .i64 (b + 1)] ∧ Box W1 (w.heap.size + 1 + 1) [.int .i64 0, .int .i64 0, .int .i64 0, .int .i64 0, .int .i64 0, .slice none 0 0] ∧ Below w.heap.size w W1) := ⟨Y.out.1.next hb, Y.out.2.1.next hb, Y.out.2.2.1.next hb, Y.out.2.2.2.trans (hb.mono Y.out.2.2.2.size)⟩
  clear hb a0 a1 a2 a3 a4 a5
  rw [hg]
  obtain ⟨d0, d1⟩ := Y.out.2.1.c2
  go_wp2_with fail
  refine (impl_dot 1 (b + 1) _).mono ?_
  rintro e1 W2 ⟨rfl, hb⟩
  replace Y : Hid (Box W2 w.heap.size [.int .i64 e, .int .i64 o, .int .i64 a, .int .i64 b, .int .i64 c, .slice p l.length q] ∧ Box W2 (w.heap.size + 1) [.int .i64 1, .int .i64 (b + 1)] ∧ Box W2 (w.heap.size + 1 + 1) [.int .i64 0, .int .i64 0, .int .i64 0, .int .i64 0, .int .i64 0, .slice none 0 0] ∧ Below w.heap.size w W2) := ⟨Y.out.1.next hb, Y.out.2.1.next hb, Y.out.2.2.1.next hb, Y.out.2.2.2.trans (hb.mono Y.out.2.2.2.size)⟩
  clear hb d0 d1
  rw [hd]
  have HZ : Hid (w.heap.size + 1 + 1 < W2.heap.size) := Y.out.2.2.1.lt
  obtain ⟨a0, a1, a2, a3, a4, a5⟩ := Y.out.1.c6
  go_wp2_with fail
  refine (copied_any lo q p l e o a b c _ (by omega) (hr.out.next Y.out.2.2.2)).mono ?_
  rintro e1 W3 ⟨po, co, rfl, hO, hb⟩
  replace Y : Hid (Box W3 w.heap.size [.int .i64 e, .int .i64 o, .int .i64 a, .int .i64 b, .int .i64 c, .slice p l.length q] ∧ Box W3 (w.heap.size + 1) [.int .i64 1, .int .i64 (b + 1)] ∧ Box W3 (w.heap.size + 1 + 1) [.int .i64 0, .int .i64 0, .int .i64 0, .int .i64 0, .int .i64 0, .slice none 0 0] ∧ Below w.heap.size w W3) := ⟨Y.out.1.next hb, Y.out.2.1.next hb, Y.out.2.2.1.next hb, Y.out.2.2.2.trans (hb.mono Y.out.2.2.2.size)⟩
  have HO : Hid (OwnG W3 31 2 (.slice po l.length co) l.length (flatD l) W2.heap.size ∧ w.heap.size + 1 + 1 < W2.heap.size ∧ W2.heap.size ≤ W3.heap.size) := ⟨hO, by have := Y.out.2.2.1; exact HZ.out, hb.size⟩
  clear hb hO a0 a1 a2 a3 a4 a5 hr
  generalize W2.heap.size = lv at *
  go_upto_region 4 with fail
  refine wp_gen (fun W => Box W (w.heap.size + 1) [.int .i64 1, .int .i64 (b + 1)] ∧ Box W (w.heap.size + 1 + 1) [.int .i64 0, .int .i64 0, .int .i64 0, .int .i64 0, .int .i64 0, .slice none 0 0] ∧ Below w.heap.size w W ∧ OwnG W 31 2 (.slice po l.length co) l.length (flatD l) lv ∧ w.heap.size + 1 + 1 < lv ∧ Box W W3.heap.size [.int .i64 e, .int .i64 o, .int .i64 a, .int .i64 b, .int .i64 c, .slice po l.length co] ∧ lv ≤ W3.heap.size ∧ (∀ k, (Value.slice po l.length co).ownBlock = some k → ¬ k = W3.heap.size)) ⟨Y.out.2.1.alloc, Y.out.2.2.1.alloc, Y.out.2.2.2.trans ((bel_alloc _ _).mono Y.out.2.2.2.size), HO.out.1.next (bel_alloc _ _), HO.out.2.1, box_mk, HO.out.2.2, fun k hk => by have := (HO.out.1.own.lt k hk).2; omega⟩ (fun W4 hI => ?_)
  clear Y HO HZ
  have Y : Hid (Box W4 (w.heap.size + 1) [.int .i64 1, .int .i64 (b + 1)] ∧ Box W4 (w.heap.size + 1 + 1) [.int .i64 0, .int .i64 0, .int .i64 0, .int .i64 0, .int .i64 0, .slice none 0 0] ∧ Below w.heap.size w W4 ∧ OwnG W4 31 2 (.slice po l.length co) l.length (flatD l) lv ∧ w.heap.size + 1 + 1 < lv ∧ Box W4 W3.heap.size [.int .i64 e, .int .i64 o, .int .i64 a, .int .i64 b, .int .i64 c, .slice po l.length co] ∧ lv ≤ W3.heap.size ∧ (∀ k, (Value.slice po l.length co).ownBlock = some k → ¬ k = W3.heap.size)) := hI
  clear hI
  generalize W3.heap.size = ga at *
  obtain ⟨a0, a1, a2, a3, a4, a5⟩ := Y.out.2.2.2.2.2.1.c6
  obtain ⟨d0, d1⟩ := Y.out.1.c2
  go_wp2_with fail
  refine (knows_1false a b c (b + 1) _ (by omega)).mono ?_
  rintro e1 W5 ⟨rfl, hb⟩
  replace Y : Hid (Box W5 (w.heap.size + 1) [.int .i64 1, .int .i64 (b + 1)] ∧ Box W5 (w.heap.size + 1 + 1) [.int .i64 0, .int .i64 0, .int .i64 0, .int .i64 0, .int .i64 0, .slice none 0 0] ∧ Below w.heap.size w W5 ∧ OwnG W5 31 2 (.slice po l.length co) l.length (flatD l) lv ∧ w.heap.size + 1 + 1 < lv ∧ Box W5 ga [.int .i64 e, .int .i64 o, .int .i64 a, .int .i64 b, .int .i64 c, .slice po l.length co] ∧ lv ≤ ga ∧ (∀ k, (Value.slice po l.length co).ownBlock = some k → ¬ k = ga)) := ⟨Y.out.1.next hb, Y.out.2.1.next hb, Y.out.2.2.1.trans (hb.mono Y.out.2.2.1.size), Y.out.2.2.2.1.next hb, Y.out.2.2.2.2.1, Y.out.2.2.2.2.2.1.next hb, Y.out.2.2.2.2.2.2.1, Y.out.2.2.2.2.2.2.2⟩
  clear hb a0 a1 a2 a3 a4 a5 d0 d1
  obtain ⟨a0, a1, a2, a3, a4, a5⟩ := Y.out.2.2.2.2.2.1.c6
  obtain ⟨d0, d1⟩ := Y.out.1.c2
  obtain ⟨g0, g1, g2, g3, g4, g5⟩ := Y.out.2.2.2.2.2.1.f6
  go_wp2_with fail
  go_quiet (fail)
  rename_i nq _
  go_upto_region 13 with fail
  clear a0 a1 a2 a3 a4 a5 d0 d1 g0 g1 g2 g3 g4 g5
  have hb : Below W5.heap.size W5 _ := below_drewN (Below.refl _ _) nq
  replace Y : Hid (_ ∧ _ ∧ _ ∧ _ ∧ _ ∧ _ ∧ _ ∧ _) := ⟨Y.out.1.next hb, Y.out.2.1.next hb, Y.out.2.2.1.trans (hb.mono Y.out.2.2.1.size), Y.out.2.2.2.1.next hb, Y.out.2.2.2.2.1, Y.out.2.2.2.2.2.1.next hb, Y.out.2.2.2.2.2.2.1, Y.out.2.2.2.2.2.2.2⟩
  clear hb
  refine wp_gen (fun W => Box W (w.heap.size + 1) [.int .i64 1, .int .i64 (b + 1)] ∧ Box W (w.heap.size + 1 + 1) [.int .i64 0, .int .i64 0, .int .i64 0, .int .i64 0, .int .i64 0, .slice none 0 0] ∧ Below w.heap.size w W ∧ OwnG W 31 2 (.slice po l.length co) l.length (flatD l) lv ∧ w.heap.size + 1 + 1 < lv ∧ Box W ga [.int .i64 e, .int .i64 o, .int .i64 a, .int .i64 (b + 1), .int .i64 c, .slice po l.length co] ∧ lv ≤ ga ∧ (∀ k, (Value.slice po l.length co).ownBlock = some k → ¬ k = ga)) ?_ (fun W6 hI => ?_)
  · have hlt := Y.out.2.2.2.2.1
    have hga := Y.out.2.2.2.2.2.2.1
    refine ⟨Y.out.1.oth (by omega), Y.out.2.1.oth (by omega), bel_in Y.out.2.2.1 (by omega), Y.out.2.2.2.1.kp Kp.set Y.out.2.2.2.2.2.2.2, hlt, ?_, hga, Y.out.2.2.2.2.2.2.2⟩
    have := Y.out.2.2.2.2.2.1.set (i := 3) (u := .int .i64 (b + 1)) (by simp)
    simpa using this
  clear Y
  have Y : Hid (Box W6 (w.heap.size + 1) [.int .i64 1, .int .i64 (b + 1)] ∧ Box W6 (w.heap.size + 1 + 1) [.int .i64 0, .int .i64 0, .int .i64 0, .int .i64 0, .int .i64 0, .slice none 0 0] ∧ Below w.heap.size w W6 ∧ OwnG W6 31 2 (.slice po l.length co) l.length (flatD l) lv ∧ w.heap.size + 1 + 1 < lv ∧ Box W6 ga [.int .i64 e, .int .i64 o, .int .i64 a, .int .i64 (b + 1), .int .i64 c, .slice po l.length co] ∧ lv ≤ ga ∧ (∀ k, (Value.slice po l.length co).ownBlock = some k → ¬ k = ga)) := hI
  clear hI
  have B1 : Hid (Box (W6.alloc (.cells #[.int .i64 1, .int .i64 (b + 1)] 31)) W6.heap.size [.int .i64 1, .int .i64 (b + 1)] ∧ OwnG (W6.alloc (.cells #[.int .i64 1, .int .i64 (b + 1)] 31)) 31 2 (.slice po l.length co) l.length (flatD l) lv ∧ Below w.heap.size w W6 ∧ lv ≤ (W6.alloc (.cells #[.int .i64 1, .int .i64 (b + 1)] 31)).heap.size) := ⟨box_mk, Y.out.2.2.2.1.next (bel_alloc _ _), Y.out.2.2.1, by have := Y.out.2.2.2.2.2.1.lt; have := Y.out.2.2.2.2.2.2.1; simp; omega⟩
  have RB : Hid (GRow 0 (W6.alloc (.cells #[.int .i64 1, .int .i64 (b + 1)] 31)) (some ⟨W6.heap.size, 0, none⟩) [.int .i64 1, .int .i64 (b + 1)]) := box_row B1.out.1
  obtain ⟨a0, a1, a2, a3, a4, a5⟩ := Y.out.2.2.2.2.2.1.c6
  obtain ⟨d0, d1⟩ := Y.out.1.c2
  have hl0 := Y.out.2.2.2.2.2.1.lt
  go_wp2_with (first | (at_builtin; refine wpList_appG elD rfl _ _ rfl (.slice po l.length co) l.length (flatD l) lv (l.length + 1) rfl B1.out.2.1 B1.out.2.2.2 (some ⟨W6.heap.size, 0, none⟩) 1 1 [.int .i64 1, .int .i64 (b + 1)] rfl (by simp) (by simp [Value.oneCell']) 0 RB.out (by omega) rfl ?_) | go_in)
  clear a0 a1 a2 a3 a4 a5 d0 d1 hl0
  intro pn cn W7 hO hG _
  have kq : Kp (fun k => (Value.slice po l.length co).ownBlock = some k) (W6.alloc (.cells #[.int .i64 1, .int .i64 (b + 1)] 31)) W7 := Kp.of_gro hG
  have hbl : Below lv W6 W7 := ((bel_alloc W6 (.cells #[.int .i64 1, .int .i64 (b + 1)] 31)).mono (by have := Y.out.2.2.2.2.2.1.lt; have := Y.out.2.2.2.2.2.2.1; omega)).trans (hG.below B1.out.2.2.2 B1.out.2.1.ge)
  have Y2 : Hid (Box W7 (w.heap.size + 1 + 1) [.int .i64 0, .int .i64 0, .int .i64 0, .int .i64 0, .int .i64 0, .slice none 0 0] ∧ Below w.heap.size w W7 ∧ OwnG W7 31 2 (.slice pn (l.length + 1) cn) (l.length + 1) (flatD l ++ [.int .i64 1, .int .i64 (b + 1)]) lv ∧ w.heap.size + 1 + 1 < lv ∧ Box W7 ga [.int .i64 e, .int .i64 o, .int .i64 a, .int .i64 (b + 1), .int .i64 c, .slice po l.length co] ∧ lv ≤ ga ∧ (∀ k, (Value.slice pn (l.length + 1) cn).ownBlock = some k → ¬ k = ga)) := by
    have hlt := Y.out.2.2.2.2.1
    have hga := Y.out.2.2.2.2.2.2.1
    have hgl := Y.out.2.2.2.2.2.1.lt
    refine ⟨Y.out.2.1.bel hbl (by omega), Y.out.2.2.1.trans (hbl.mono (by omega)), hO, hlt, (Y.out.2.2.2.2.2.1.alloc (ob := (.cells #[.int .i64 1, .int .i64 (b + 1)] 31))).kp kq (fun h => Y.out.2.2.2.2.2.2.2 ga h rfl), hga, fun k hk hkg => ?_⟩
    subst hkg
    rcases hG.fresh k hk with h | h
    · exact Y.out.2.2.2.2.2.2.2 k h rfl
    · simp at h; omega
  clear hO hG kq hbl Y B1 RB
  obtain ⟨a0, a1, a2, a3, a4, a5⟩ := Y2.out.2.2.2.2.1.c6
  obtain ⟨g0, g1, g2, g3, g4, g5⟩ := Y2.out.2.2.2.2.1.f6
  go_upto_region 14 with fail
  clear a0 a1 a2 a3 a4 a5 g0 g1 g2 g3 g4 g5
  refine wp_gen (fun W => Box W (w.heap.size + 1 + 1) [.int .i64 0, .int .i64 0, .int .i64 0, .int .i64 0, .int .i64 0, .slice none 0 0] ∧ Below w.heap.size w W ∧ OwnG W 31 2 (.slice pn (l.length + 1) cn) (l.length + 1) (flatD l ++ [.int .i64 1, .int .i64 (b + 1)]) lv ∧ w.heap.size + 1 + 1 < lv ∧ Box W ga [.int .i64 e, .int .i64 o, .int .i64 a, .int .i64 (b + 1), .int .i64 c, .slice pn (l.length + 1) cn]) ?_ (fun W8 hI => ?_)
  · have hlt := Y2.out.2.2.2.1
    have hga := Y2.out.2.2.2.2.2.1
    refine ⟨Y2.out.1.oth (by omega), bel_in Y2.out.2.1 (by omega), Y2.out.2.2.1.kp Kp.set Y2.out.2.2.2.2.2.2, hlt, ?_⟩
    have := Y2.out.2.2.2.2.1.set (i := 5) (u := .slice pn (l.length + 1) cn) (by simp)
    simpa using this
  clear Y2
  have Y : Hid _ := hI
  clear hI
  obtain ⟨a0, a1, a2, a3, a4, a5⟩ := Y.out.2.2.2.2.c6
  obtain ⟨b0, b1, b2, b3, b4, b5⟩ := Y.out.1.c6
  obtain ⟨f0, f1, f2, f3, f4, f5⟩ := Y.out.1.f6
  go_wp2_with fail
  clear a0 a1 a2 a3 a4 a5 b0 b1 b2 b3 b4 b5 f0 f1 f2 f3 f4 f5
  have hlt := Y.out.2.2.2.1
  have q0 : ∀ k, (Value.slice pn (l.length + 1) cn).ownBlock = some k → ¬ k = w.heap.size + 1 + 1 := fun k hk => by have := Y.out.2.2.1.ge k hk; omega
  have Z := Y.out.1.s6 (u0 := .int .i64 e) (u1 := .int .i64 o) (u2 := .int .i64 a) (u3 := .int .i64 (b + 1)) (u4 := .int .i64 c) (u5 := .slice pn (l.length + 1) cn)
  obtain ⟨z0, z1, z2, z3, z4, z5⟩ := Z.c6
  clear Z
  refine bodyPost_ret (v := .tuple #[.agg #[.int .i64 e, .int .i64 o, .int .i64 a, .int .i64 (b + 1), .int .i64 c, .slice pn (l.length + 1) cn], .bool true, .int .i64 0]) (by simp [results, Try.results10, go_sem, z0, z1, z2, z3, z4, z5]) rfl ?_
  have HBL : Below w.heap.size w _ := bel_in (bel_in (bel_in (bel_in (bel_in (bel_in Y.out.2.1 (i := 0) (u := .int .i64 e) (g := (w.heap.size + 1 + 1)) (by omega)) (i := 1) (u := .int .i64 o) (g := (w.heap.size + 1 + 1)) (by omega)) (i := 2) (u := .int .i64 a) (g := (w.heap.size + 1 + 1)) (by omega)) (i := 3) (u := .int .i64 (b + 1)) (g := (w.heap.size + 1 + 1)) (by omega)) (i := 4) (u := .int .i64 c) (g := (w.heap.size + 1 + 1)) (by omega)) (i := 5) (u := .slice pn (l.length + 1) cn) (g := (w.heap.size + 1 + 1)) (by omega)
  have hln : (l ++ [(⟨1, b + 1⟩ : Dt)]).length = l.length + 1 := by simp
  refine ⟨pn, cn, by rw [hln], (OwnG.mr (e := 31) (c := cn) ?_).weak (Nat.le_of_lt (Nat.lt_of_le_of_lt (Nat.le_add_right _ 2) (show w.heap.size + 2 < lv by omega))), HBL⟩
  rw [hln, flatD_app]
  exact (((((Y.out.2.2.1.kp Kp.set q0).kp Kp.set q0).kp Kp.set q0).kp Kp.set q0).kp Kp.set q0).kp Kp.set q0

set_option maxRecDepth 20000 in
set_option maxHeartbeats 4000000 in
theorem implA_order2 (lo q : Nat) (p : Option Addr) (l : List Dt) (e o a b c dn : Int) (w : World) (hl : (l.length : Int) ≤ 1048576) (hr0 : GRow lo w p (flatD l)) (hg : gokB e o a b c l = true) (hd : dotB 2 dn = true) (hx : 0 ≤ c ∧ c ≤ 9999) (h1 : c < dn) (h2 : c + 1 ≠ dn) :
    Calls Try.prog 10 #[.agg #[.int .i64 e, .int .i64 o, .int .i64 a, .int .i64 b, .int .i64 c, .slice p l.length q], .int .i64 e, .agg #[.int .i64 2, .int .i64 dn]] w (AP w false 17 e o a b c l) := by
  have hw : IntKind.i64.wrap (c + 1) = c + 1 := by rw [IntKind.wrap_i64]; omega
  have h3 : (dn == c + 1) = false := beq_eq_false_iff_ne.2 (Ne.symm h2)
  have hr : Hid (GRow lo w p (flatD l)) := hr0
  clear hr0
  go_enter Try.func10, Try.ntmps10
  go_upto_region 1 with fail
  refine wp_gen (fun W => Box W w.heap.size [.int .i64 e, .int .i64 o, .int .i64 a, .int .i64 b, .int .i64 c, .slice p l.length q] ∧ Box W (w.heap.size + 1) [.int .i64 2, .int .i64 dn] ∧ Box W (w.heap.size + 1 + 1) [.int .i64 0, .int .i64 0, .int .i64 0, .int .i64 0, .int .i64 0, .slice none 0 0] ∧ Below w.heap.size w W) ⟨box_mk.alloc.alloc, box_mid, box_end, bel3 _ _ _ _⟩ (fun W0 hI => ?_)
  have Y : Hid _ := hI
  clear hI
  obtain ⟨a0, a1, a2, a3, a4, a5⟩ := Y.out.1.c6
  go_wp2_with fail
  refine (implG_any lo q p l e o a b c _ hl (hr.out.next Y.out.2.2.2)).mono ?_
  rintro e1 W1 ⟨rfl, hb⟩
  replace Y : Hid (Box W1 w.heap.size [.int .i64 e, .int .i64 o, .int .i64 a, .int .i64 b, .int .i64 c, .slice p l.length q] ∧ Box W1 (w.heap.size + 1) [.int .i64 2, .int .i64 dn] ∧ Box W1 (w.heap.size + 1 + 1) [.int .i64 0, .int .i64 0, .int .i64 0, .int .i64 0, .int .i64 0, .slice none 0 0] ∧ Below w.heap.size w W1) := ⟨Y.out.1.next hb, Y.out.2.1.next hb, Y.out.2.2.1.next hb, Y.out.2.2.2.trans (hb.mono Y.out.2.2.2.size)⟩
  clear hb a0 a1 a2 a3 a4 a5
  rw [hg]
  obtain ⟨d0, d1⟩ := Y.out.2.1.c2
  go_wp2_with fail
  refine (impl_dot 2 dn _).mono ?_
  rintro e1 W2 ⟨rfl, hb⟩
  replace Y : Hid (Box W2 w.heap.size [.int .i64 e, .int .i64 o, .int .i64 a, .int .i64 b, .int .i64 c, .slice p l.length q] ∧ Box W2 (w.heap.size + 1) [.int .i64 2, .int .i64 dn] ∧ Box W2 (w.heap.size + 1 + 1) [.int .i64 0, .int .i64 0, .int .i64 0, .int .i64 0, .int .i64 0, .slice none 0 0] ∧ Below w.heap.size w W2) := ⟨Y.out.1.next hb, Y.out.2.1.next hb, Y.out.2.2.1.next hb, Y.out.2.2.2.trans (hb.mono Y.out.2.2.2.size)⟩
  clear hb d0 d1
  rw [hd]
  have HZ : Hid (w.heap.size + 1 + 1 < W2.heap.size) := Y.out.2.2.1.lt
  obtain ⟨a0, a1, a2, a3, a4, a5⟩ := Y.out.1.c6
  go_wp2_with fail
  refine (copied_any lo q p l e o a b c _ (by omega) (hr.out.next Y.out.2.2.2)).mono ?_
  rintro e1 W3 ⟨po, co, rfl, hO, hb⟩
  replace Y : Hid (Box W3 w.heap.size [.int .i64 e, .int .i64 o, .int .i64 a, .int .i64 b, .int .i64 c, .slice p l.length q] ∧ Box W3 (w.heap.size + 1) [.int .i64 2, .int .i64 dn] ∧ Box W3 (w.heap.size + 1 + 1) [.int .i64 0, .int .i64 0, .int .i64 0, .int .i64 0, .int .i64 0, .slice none 0 0] ∧ Below w.heap.size w W3) := ⟨Y.out.1.next hb, Y.out.2.1.next hb, Y.out.2.2.1.next hb, Y.out.2.2.2.trans (hb.mono Y.out.2.2.2.size)⟩
  have HO : Hid (OwnG W3 31 2 (.slice po l.length co) l.length (flatD l) W2.heap.size ∧ w.heap.size + 1 + 1 < W2.heap.size ∧ W2.heap.size ≤ W3.heap.size) := ⟨hO, by have := Y.out.2.2.1; exact HZ.out, hb.size⟩
  clear hb hO a0 a1 a2 a3 a4 a5 hr
  generalize W2.heap.size = lv at *
  go_upto_region 4 with fail
  refine wp_gen (fun W => Box W (w.heap.size + 1) [.int .i64 2, .int .i64 dn] ∧ Box W (w.heap.size + 1 + 1) [.int .i64 0, .int .i64 0, .int .i64 0, .int .i64 0, .int .i64 0, .slice none 0 0] ∧ Below w.heap.size w W ∧ OwnG W 31 2 (.slice po l.length co) l.length (flatD l) lv ∧ w.heap.size + 1 + 1 < lv ∧ Box W W3.heap.size [.int .i64 e, .int .i64 o, .int .i64 a, .int .i64 b, .int .i64 c, .slice po l.length co] ∧ lv ≤ W3.heap.size ∧ (∀ k, (Value.slice po l.length co).ownBlock = some k → ¬ k = W3.heap.size)) ⟨Y.out.2.1.alloc, Y.out.2.2.1.alloc, Y.out.2.2.2.trans ((bel_alloc _ _).mono Y.out.2.2.2.size), HO.out.1.next (bel_alloc _ _), HO.out.2.1, box_mk, HO.out.2.2, fun k hk => by have := (HO.out.1.own.lt k hk).2; omega⟩ (fun W4 hI => ?_)
  clear Y HO HZ
  have Y : Hid (Box W4 (w.heap.size + 1) [.int .i64 2, .int .i64 dn] ∧ Box W4 (w.heap.size + 1 + 1) [.int .i64 0, .int .i64 0, .int .i64 0, .int .i64 0, .int .i64 0, .slice none 0 0] ∧ Below w.heap.size w W4 ∧ OwnG W4 31 2 (.slice po l.length co) l.length (flatD l) lv ∧ w.heap.size + 1 + 1 < lv ∧ Box W4 W3.heap.size [.int .i64 e, .int .i64 o, .int .i64 a, .int .i64 b, .int .i64 c, .slice po l.length co] ∧ lv ≤ W3.heap.size ∧ (∀ k, (Value.slice po l.length co).ownBlock = some k → ¬ k = W3.heap.size)) := hI
  clear hI
  generalize W3.heap.size = ga at *
  obtain ⟨a0, a1, a2, a3, a4, a5⟩ := Y.out.2.2.2.2.2.1.c6
  obtain ⟨d0, d1⟩ := Y.out.1.c2
  go_wp2_with fail
  refine (knows_2false a b c dn _ h1).mono ?_
  rintro e1 W5 ⟨rfl, hb⟩
  replace Y : Hid (Box W5 (w.heap.size + 1) [.int .i64 2, .int .i64 dn] ∧ Box W5 (w.heap.size + 1 + 1) [.int .i64 0, .int .i64 0, .int .i64 0, .int .i64 0, .int .i64 0, .slice none 0 0] ∧ Below w.heap.size w W5 ∧ OwnG W5 31 2 (.slice po l.length co) l.length (flatD l) lv ∧ w.heap.size + 1 + 1 < lv ∧ Box W5 ga [.int .i64 e, .int .i64 o, .int .i64 a, .int .i64 b, .int .i64 c, .slice po l.length co] ∧ lv ≤ ga ∧ (∀ k, (Value.slice po l.length co).ownBlock = some k → ¬ k = ga)) := ⟨Y.out.1.next hb, Y.out.2.1.next hb, Y.out.2.2.1.trans (hb.mono Y.out.2.2.1.size), Y.out.2.2.2.1.next hb, Y.out.2.2.2.2.1, Y.out.2.2.2.2.2.1.next hb, Y.out.2.2.2.2.2.2.1, Y.out.2.2.2.2.2.2.2⟩
  clear hb a0 a1 a2 a3 a4 a5 d0 d1
  obtain ⟨a0, a1, a2, a3, a4, a5⟩ := Y.out.2.2.2.2.2.1.c6
  obtain ⟨d0, d1⟩ := Y.out.1.c2
  obtain ⟨b0, b1, b2, b3, b4, b5⟩ := Y.out.2.1.c6
  obtain ⟨f0, f1, f2, f3, f4, f5⟩ := Y.out.2.1.f6
  go_wp2_with fail
  go_quiet (fail)
  rename_i nq _
  go_wp2_with fail
  have hb : Below W5.heap.size W5 _ := below_drewN (Below.refl _ _) nq
  replace Y : Hid (_ ∧ _ ∧ _ ∧ _ ∧ _ ∧ _ ∧ _ ∧ _) := ⟨Y.out.1.next hb, Y.out.2.1.next hb, Y.out.2.2.1.trans (hb.mono Y.out.2.2.1.size), Y.out.2.2.2.1.next hb, Y.out.2.2.2.2.1, Y.out.2.2.2.2.2.1.next hb, Y.out.2.2.2.2.2.2.1, Y.out.2.2.2.2.2.2.2⟩
  clear hb
  clear a0 a1 a2 a3 a4 a5 d0 d1 b0 b1 b2 b3 b4 b5 f0 f1 f2 f3 f4 f5
  have hlt := Y.out.2.2.2.2.1
  have q0 : ∀ k, (Value.slice po l.length co).ownBlock = some k → ¬ k = w.heap.size + 1 + 1 := fun k hk => by have := Y.out.2.2.2.1.ge k hk; omega
  have Z := Y.out.2.1.s6 (u0 := .int .i64 e) (u1 := .int .i64 o) (u2 := .int .i64 a) (u3 := .int .i64 b) (u4 := .int .i64 c) (u5 := .slice po l.length co)
  obtain ⟨z0, z1, z2, z3, z4, z5⟩ := Z.c6
  clear Z
  refine bodyPost_ret (v := .tuple #[.agg #[.int .i64 e, .int .i64 o, .int .i64 a, .int .i64 b, .int .i64 c, .slice po l.length co], .bool false, .int .i64 17]) (by simp [results, Try.results10, go_sem, z0, z1, z2, z3, z4, z5]) rfl ?_
  have HBL : Below w.heap.size w _ := bel_in (bel_in (bel_in (bel_in (bel_in (bel_in Y.out.2.2.1 (i := 0) (u := .int .i64 e) (g := (w.heap.size + 1 + 1)) (by omega)) (i := 1) (u := .int .i64 o) (g := (w.heap.size + 1 + 1)) (by omega)) (i := 2) (u := .int .i64 a) (g := (w.heap.size + 1 + 1)) (by omega)) (i := 3) (u := .int .i64 b) (g := (w.heap.size + 1 + 1)) (by omega)) (i := 4) (u := .int .i64 c) (g := (w.heap.size + 1 + 1)) (by omega)) (i := 5) (u := .slice po l.length co) (g := (w.heap.size + 1 + 1)) (by omega)
  exact ⟨po, co, rfl, (OwnG.mr ((((((Y.out.2.2.2.1.kp Kp.set q0).kp Kp.set q0).kp Kp.set q0).kp Kp.set q0).kp Kp.set q0).kp Kp.set q0)).weak (by omega), HBL⟩

set_option maxRecDepth 20000 in
set_option maxHeartbeats 4000000 in
theorem implA_full2 (lo q : Nat) (p : Option Addr) (l : List Dt) (e o a b c : Int) (w : World) (hl : (l.length : Int) ≤ 1048576) (hr0 : GRow lo w p (flatD l)) (hg : gokB e o a b c l = true) (hd : dotB 2 (c + 1) = true) (hx : 0 ≤ c ∧ c ≤ 9999) (h2 : l.length = 4096) :
    Calls Try.prog 10 #[.agg #[.int .i64 e, .int .i64 o, .int .i64 a, .int .i64 b, .int .i64 c, .slice p l.length q], .int .i64 e, .agg #[.int .i64 2, .int .i64 (c + 1)]] w (AP w false 7 e o a b c l) := by
  have hw : IntKind.i64.wrap (c + 1) = c + 1 := by rw [IntKind.wrap_i64]; omega
  have h3 : (4096 : Int) ≤ (l.length : Int) := by omega
  clear h2
  have hr : Hid (GRow lo w p (flatD l)) := hr0
  clear hr0
  go_enter Try.func10, Try.ntmps10
  go_upto_region 1 with fail
  refine wp_gen (fun W => Box W w.heap.size [.int .i64 e, .int .i64 o, .int .i64 a, .int .i64 b, .int .i64 c, .slice p l.length q] ∧ Box W (w.heap.size + 1) [.int .i64 2, .int .i64 (c + 1)] ∧ Box W (w.heap.size + 1 + 1) [.int .i64 0, .int .i64 0, .int .i64 0, .int .i64 0, .int .i64 0, .slice none 0 0] ∧ Below w.heap.size w W) ⟨box_mk.alloc.alloc, box_mid, box_end, bel3 _ _ _ _⟩ (fun W0 hI => ?_)
  have Y : Hid _ := hI
  clear hI
  obtain ⟨a0, a1, a2, a3, a4, a5⟩ := Y.out.1.c6
  go_wp2_with fail
  refine (implG_any lo q p l e o a b c _ hl (hr.out.next Y.out.2.2.2)).mono ?_
  rintro e1 W1 ⟨rfl, hb⟩
  replace Y : Hid (Box W1 w.heap.size [.int .i64 e, .int .i64 o, .int .i64 a, .int .i64 b, .int .i64 c, .slice p l.length q] ∧ Box W1 (w.heap.size + 1) [.int .i64 2, .int .i64 (c + 1)] ∧ Box W1 (w.heap.size + 1 + 1) [.int .i64 0, .int .i64 0, .int .i64 0, .int .i64 0, .int .i64 0, .slice none 0 0] ∧ Below w.heap.size w W1) := ⟨Y.out.1.next hb, Y.out.2.1.next hb, Y.out.2.2.1.next hb, Y.out.2.2.2.trans (hb.mono Y.out.2.2.2.size)⟩
  clear hb a0 a1 a2 a3 a4 a5
  rw [hg]
  obtain ⟨d0, d1⟩ := Y.out.2.1.c2
  go_wp2_with fail
  refine (impl_dot 2 (c + 1) _).mono ?_
  rintro e1 W2 ⟨rfl, hb⟩
  replace Y : Hid (Box W2 w.heap.size [.int .i64 e, .int .i64 o, .int .i64 a, .int .i64 b, .int .i64 c, .slice p l.length q] ∧ Box W2 (w.heap.size + 1) [.int .i64 2, .int .i64 (c + 1)] ∧ Box W2 (w.heap.size + 1 + 1) [.int .i64 0, .int .i64 0, .int .i64 0, .int .i64 0, .int .i64 0, .slice none 0 0] ∧ Below w.heap.size w W2) := ⟨Y.out.1.next hb, Y.out.2.1.next hb, Y.out.2.2.1.next hb, Y.out.2.2.2.trans (hb.mono Y.out.2.2.2.size)⟩
  clear hb d0 d1
  rw [hd]
  have HZ : Hid (w.heap.size + 1 + 1 < W2.heap.size) := Y.out.2.2.1.lt
  obtain ⟨a0, a1, a2, a3, a4, a5⟩ := Y.out.1.c6
  go_wp2_with fail
  refine (copied_any lo q p l e o a b c _ (by omega) (hr.out.next Y.out.2.2.2)).mono ?_
  rintro e1 W3 ⟨po, co, rfl, hO, hb⟩
  replace Y : Hid (Box W3 w.heap.size [.int .i64 e, .int .i64 o, .int .i64 a, .int .i64 b, .int .i64 c, .slice p l.length q] ∧ Box W3 (w.heap.size + 1) [.int .i64 2, .int .i64 (c + 1)] ∧ Box W3 (w.heap.size + 1 + 1) [.int .i64 0, .int .i64 0, .int .i64 0, .int .i64 0, .int .i64 0, .slice none 0 0] ∧ Below w.heap.size w W3) := ⟨Y.out.1.next hb, Y.out.2.1.next hb, Y.out.2.2.1.next hb, Y.out.2.2.2.trans (hb.mono Y.out.2.2.2.size)⟩
  have HO : Hid (OwnG W3 31 2 (.slice po l.length co) l.length (flatD l) W2.heap.size ∧ w.heap.size + 1 + 1 < W2.heap.size ∧ W2.heap.size ≤ W3.heap.size) := ⟨hO, by have := Y.out.2.2.1; exact HZ.out, hb.size⟩
  clear hb hO a0 a1 a2 a3 a4 a5 hr
  generalize W2.heap.size = lv at *
  go_upto_region 4 with fail
  refine wp_gen (fun W => Box W (w.heap.size + 1) [.int .i64 2, .int .i64 (c + 1)] ∧ Box W (w.heap.size + 1 + 1) [.int .i64 0, .int .i64 0, .int .i64 0, .int .i64 0, .int .i64 0, .slice none 0 0] ∧ Below w.heap.size w W ∧ OwnG W 31 2 (.slice po l.length co) l.length (flatD l) lv ∧ w.heap.size + 1 + 1 < lv ∧ Box W W3.heap.size [.int .i64 e, .int .i64 o, .int .i64 a, .int .i64 b, .int .i64 c, .slice po l.length co] ∧ lv ≤ W3.heap.size ∧ (∀ k, (Value.slice po l.length co).ownBlock = some k → ¬ k = W3.heap.size)) ⟨Y.out.2.1.alloc, Y.out.2.2.1.alloc, Y.out.2.2.2.trans ((bel_alloc _ _).mono Y.out.2.2.2.size), HO.out.1.next (bel_alloc _ _), HO.out.2.1, box_mk, HO.out.2.2, fun k hk => by have := (HO.out.1.own.lt k hk).2; omega⟩ (fun W4 hI => ?_)
  clear Y HO HZ
  have Y : Hid (Box W4 (w.heap.size + 1) [.int .i64 2, .int .i64 (c + 1)] ∧ Box W4 (w.heap.size + 1 + 1) [.int .i64 0, .int .i64 0, .int .i64 0, .int .i64 0, .int .i64 0, .slice none 0 0] ∧ Below w.heap.size w W4 ∧ OwnG W4 31 2 (.slice po l.length co) l.length (flatD l) lv ∧ w.heap.size + 1 + 1 < lv ∧ Box W4 W3.heap.size [.int .i64 e, .int .i64 o, .int .i64 a, .int .i64 b, .int .i64 c, .slice po l.length co] ∧ lv ≤ W3.heap.size ∧ (∀ k, (Value.slice po l.length co).ownBlock = some k → ¬ k = W3.heap.size)) := hI
  clear hI
  generalize W3.heap.size = ga at *
  obtain ⟨a0, a1, a2, a3, a4, a5⟩ := Y.out.2.2.2.2.2.1.c6
  obtain ⟨d0, d1⟩ := Y.out.1.c2
  go_wp2_with fail
  refine (knows_2false a b c (c + 1) _ (by omega)).mono ?_
  rintro e1 W5 ⟨rfl, hb⟩
  replace Y : Hid (Box W5 (w.heap.size + 1) [.int .i64 2, .int .i64 (c + 1)] ∧ Box W5 (w.heap.size + 1 + 1) [.int .i64 0, .int .i64 0, .int .i64 0, .int .i64 0, .int .i64 0, .slice none 0 0] ∧ Below w.heap.size w W5 ∧ OwnG W5 31 2 (.slice po l.length co) l.length (flatD l) lv ∧ w.heap.size + 1 + 1 < lv ∧ Box W5 ga [.int .i64 e, .int .i64 o, .int .i64 a, .int .i64 b, .int .i64 c, .slice po l.length co] ∧ lv ≤ ga ∧ (∀ k, (Value.slice po l.length co).ownBlock = some k → ¬ k = ga)) := ⟨Y.out.1.next hb, Y.out.2.1.next hb, Y.out.2.2.1.trans (hb.mono Y.out.2.2.1.size), Y.out.2.2.2.1.next hb, Y.out.2.2.2.2.1, Y.out.2.2.2.2.2.1.next hb, Y.out.2.2.2.2.2.2.1, Y.out.2.2.2.2.2.2.2⟩
  clear hb a0 a1 a2 a3 a4 a5 d0 d1
  obtain ⟨a0, a1, a2, a3, a4, a5⟩ := Y.out.2.2.2.2.2.1.c6
  obtain ⟨d0, d1⟩ := Y.out.1.c2
  obtain ⟨b0, b1, b2, b3, b4, b5⟩ := Y.out.2.1.c6
  obtain ⟨f0, f1, f2, f3, f4, f5⟩ := Y.out.2.1.f6
  go_wp2_with fail
  go_quiet (fail)
  rename_i nq _
  go_wp2_with fail
  have hb : Below W5.heap.size W5 _ := below_drewN (Below.refl _ _) nq
  replace Y : Hid (_ ∧ _ ∧ _ ∧ _ ∧ _ ∧ _ ∧ _ ∧ _) := ⟨Y.out.1.next hb, Y.out.2.1.next hb, Y.out.2.2.1.trans (hb.mono Y.out.2.2.1.size), Y.out.2.2.2.1.next hb, Y.out.2.2.2.2.1, Y.out.2.2.2.2.2.1.next hb, Y.out.2.2.2.2.2.2.1, Y.out.2.2.2.2.2.2.2⟩
  clear hb
  clear a0 a1 a2 a3 a4 a5 d0 d1 b0 b1 b2 b3 b4 b5 f0 f1 f2 f3 f4 f5
  have hlt := Y.out.2.2.2.2.1
  have q0 : ∀ k, (Value.slice po l.length co).ownBlock = some k → ¬ k = w.heap.size + 1 + 1 := fun k hk => by have := Y.out.2.2.2.1.ge k hk; omega
  have Z := Y.out.2.1.s6 (u0 := .int .i64 e) (u1 := .int .i64 o) (u2 := .int .i64 a) (u3 := .int .i64 b) (u4 := .int .i64 c) (u5 := .slice po l.length co)
  obtain ⟨z0, z1, z2, z3, z4, z5⟩ := Z.c6
  clear Z
  refine bodyPost_ret (v := .tuple #[.agg #[.int .i64 e, .int .i64 o, .int .i64 a, .int .i64 b, .int .i64 c, .slice po l.length co], .bool false, .int .i64 7]) (by simp [results, Try.results10, go_sem, z0, z1, z2, z3, z4, z5]) rfl ?_
  have HBL : Below w.heap.size w _ := bel_in (bel_in (bel_in (bel_in (bel_in (bel_in Y.out.2.2.1 (i := 0) (u := .int .i64 e) (g := (w.heap.size + 1 + 1)) (by omega)) (i := 1) (u := .int .i64 o) (g := (w.heap.size + 1 + 1)) (by omega)) (i := 2) (u := .int .i64 a) (g := (w.heap.size + 1 + 1)) (by omega)) (i := 3) (u := .int .i64 b) (g := (w.heap.size + 1 + 1)) (by omega)) (i := 4) (u := .int .i64 c) (g := (w.heap.size + 1 + 1)) (by omega)) (i := 5) (u := .slice po l.length co) (g := (w.heap.size + 1 + 1)) (by omega)
  exact ⟨po, co, rfl, (OwnG.mr ((((((Y.out.2.2.2.1.kp Kp.set q0).kp Kp.set q0).kp Kp.set q0).kp Kp.set q0).kp Kp.set q0).kp Kp.set q0)).weak (by omega), HBL⟩

set_option maxRecDepth 20000 in
set_option maxHeartbeats 4000000 in
theorem implA_ok2 (lo q : Nat) (p : Option Addr) (l : List Dt) (e o a b c : Int) (w : World) (hl : (l.length : Int) ≤ 1048576) (hr0 : GRow lo w p (flatD l)) (hg : gokB e o a b c l = true) (hd : dotB 2 (c + 1) = true) (hx : 0 ≤ c ∧ c ≤ 9999) (h2 : l.length < 4096) :
    Calls Try.prog 10 #[.agg #[.int .i64 e, .int .i64 o, .int .i64 a, .int .i64 b, .int .i64 c, .slice p l.length q], .int .i64 e, .agg #[.int .i64 2, .int .i64 (c + 1)]] w (AP w true 0 e o a b (c + 1) (l ++ [⟨2, c + 1⟩])) := by
  have hw : IntKind.i64.wrap (c + 1) = c + 1 := by rw [IntKind.wrap_i64]; omega
  have h3 : ¬ (4096 : Int) ≤ (l.length : Int) := by omega
  have hr : Hid (GRow lo w p (flatD l)) := hr0
  clear hr0
  go_enter Try.func10, Try.ntmps10
  go_upto_region 1 with fail
  refine wp_gen (fun W => Box W w.heap.size [.int .i64 e, .int .i64 o, .int .i64 a, .int .i64 b, .int .i64 c, .slice p l.length q] ∧ Box W (w.heap.size + 1) [.int .i64 2, .int .i64 (c + 1)] ∧ Box W (w.heap.size + 1 + 1) [.int .i64 0, .int .i64 0, .int .i64 0, .int .i64 0, .int .i64 0, .slice none 0 0] ∧ Below w.heap.size w W) ⟨box_mk.alloc.alloc, box_mid, box_end, bel3 _ _ _ _⟩ (fun W0 hI => ?_)
  have Y : Hid _ := hI
  clear hI
  obtain ⟨a0, a1, a2, a3, a4, a5⟩ := Y.out.1.c6
  go_wp2_with fail
  refine (implG_any lo q p l e o a b c _ hl (hr.out.next Y.out.2.2.2)).mono ?_
  rintro e1 W1 ⟨rfl, hb⟩
  replace Y : Hid (Box W1 w.heap.size [.int .i64 e, .int .i64 o, .int .i64 a, .int .i64 b, .int .i64 c, .slice p l.length q] ∧ Box W1 (w.heap.size + 1) [.int .i64 2, .int .i64 (c + 1)] ∧ Box W1 (w.heap.size + 1 + 1) [.int .i64 0, .int .i64 0, .int .i64 0, .int .i64 0, .int .i64 0, .slice none 0 0] ∧ Below w.heap.size w W1) := ⟨Y.out.1.next hb, Y.out.2.1.next hb, Y.out.2.2.1.next hb, Y.out.2.2.2.trans (hb.mono Y.out.2.2.2.size)⟩
  clear hb a0 a1 a2 a3 a4 a5
  rw [hg]
  obtain ⟨d0, d1⟩ := Y.out.2.1.c2
  go_wp2_with fail
  refine (impl_dot 2 (c + 1) _).mono ?_
  rintro e1 W2 ⟨rfl, hb⟩
  replace Y : Hid (Box W2 w.heap.size [.int .i64 e, .int .i64 o, .int .i64 a, .int .i64 b, .int .i64 c, .slice p l.length q] ∧ Box W2 (w.heap.size + 1) [.int .i64 2, .int .i64 (c + 1)] ∧ Box W2 (w.heap.size + 1 + 1) [.int .i64 0, .int .i64 0, .int .i64 0, .int .i64 0, .int .i64 0, .slice none 0 0] ∧ Below w.heap.size w W2) := ⟨Y.out.1.next hb, Y.out.2.1.next hb, Y.out.2.2.1.next hb, Y.out.2.2.2.trans (hb.mono Y.out.2.2.2.size)⟩
  clear hb d0 d1
  rw [hd]
  have HZ : Hid (w.heap.size + 1 + 1 < W2.heap.size) := Y.out.2.2.1.lt
  obtain ⟨a0, a1, a2, a3, a4, a5⟩ := Y.out.1.c6
  go_wp2_with fail
  refine (copied_any lo q p l e o a b c _ (by omega) (hr.out.next Y.out.2.2.2)).mono ?_
  rintro e1 W3 ⟨po, co, rfl, hO, hb⟩
  replace Y : Hid (Box W3 w.heap.size [.int .i64 e, .int .i64 o, .int .i64 a, .int .i64 b, .int .i64 c, .slice p l.length q] ∧ Box W3 (w.heap.size + 1) [.int .i64 2, .int .i64 (c + 1)] ∧ Box W3 (w.heap.size + 1 + 1) [.int .i64 0, .int .i64 0, .int .i64 0, .int .i64 0, .int .i64 0, .slice none 0 0] ∧ Below w.heap.size w W3) := ⟨Y.out.1.next hb, Y.out.2.1.next hb, Y.out.2.2.1.next hb, Y.out.2.2.2.trans (hb.mono Y.out.2.2.2.size)⟩
  have HO : Hid (OwnG W3 31 2 (.slice po l.length co) l.length (flatD l) W2.heap.size ∧ w.heap.size + 1 + 1 < W2.heap.size ∧ W2.heap.size ≤ W3.heap.size) := ⟨hO, by have := Y.out.2.2.1; exact HZ.out, hb.size⟩
  clear hb hO a0 a1 a2 a3 a4 a5 hr
  generalize W2.heap.size = lv at *
  go_upto_region 4 with fail
  refine wp_gen (fun W => Box W (w.heap.size + 1) [.int .i64 2, .int .i64 (c + 1)] ∧ Box W (w.heap.size + 1 + 1) [.int .i64 0, .int .i64 0, .int .i64 0, .int .i64 0, .int .i64 0, .slice none 0 0] ∧ Below w.heap.size w W ∧ OwnG W 31 2 (.slice po l.length co) l.length (flatD l) lv ∧ w.heap.size + 1 + 1 < lv ∧ Box W W3.heap.size [.int .i64 e, .int .i64 o, .int .i64 a, .int .i64 b, .int .i64 c, .slice po l.length co] ∧ lv ≤ W3.heap.size ∧ (∀ k, (Value.slice po l.length co).ownBlock = some k → ¬ k = W3.heap.size)) ⟨Y.out.2.1.alloc, Y.out.2.2.1.alloc, Y.out.2.2.2.trans ((bel_alloc _ _).mono Y.out.2.2.2.size), HO.out.1.next (bel_alloc _ _), HO.out.2.1, box_mk, HO.out.2.2, fun k hk => by have := (HO.out.1.own.lt k hk).2; omega⟩ (fun W4 hI => ?_)
  clear Y HO HZ
  have Y : Hid (Box W4 (w.heap.size + 1) [.int .i64 2, .int .i64 (c + 1)] ∧ Box W4 (w.heap.size + 1 + 1) [.int .i64 0, .int .i64 0, .int .i64 0, .int .i64 0, .int .i64 0, .slice none 0 0] ∧ Below w.heap.size w W4 ∧ OwnG W4 31 2 (.slice po l.length co) l.length (flatD l) lv ∧ w.heap.size + 1 + 1 < lv ∧ Box W4 W3.heap.size [.int .i64 e, .int .i64 o, .int .i64 a, .int .i64 b, .int .i64 c, .slice po l.length co] ∧ lv ≤ W3.heap.size ∧ (∀ k, (Value.slice po l.length co).ownBlock = some k → ¬ k = W3.heap.size)) := hI
  clear hI
  generalize W3.heap.size = ga at *
  obtain ⟨a0, a1, a2, a3, a4, a5⟩ := Y.out.2.2.2.2.2.1.c6
  obtain ⟨d0, d1⟩ := Y.out.1.c2
  go_wp2_with fail
  refine (knows_2false a b c (c + 1) _ (by omega)).mono ?_
  rintro e1 W5 ⟨rfl, hb⟩
  replace Y : Hid (Box W5 (w.heap.size + 1) [.int .i64 2, .int .i64 (c + 1)] ∧ Box W5 (w.heap.size + 1 + 1) [.int .i64 0, .int .i64 0, .int .i64 0, .int .i64 0, .int .i64 0, .slice none 0 0] ∧ Below w.heap.size w W5 ∧ OwnG W5 31 2 (.slice po l.length co) l.length (flatD l) lv ∧ w.heap.size + 1 + 1 < lv ∧ Box W5 ga [.int .i64 e, .int .i64 o, .int .i64 a, .int .i64 b, .int .i64 c, .slice po l.length co] ∧ lv ≤ ga ∧ (∀ k, (Value.slice po l.length co).ownBlock = some k → ¬ k = ga)) := ⟨Y.out.1.next hb, Y.out.2.1.next hb, Y.out.2.2.1.trans (hb.mono Y.out.2.2.1.size), Y.out.2.2.2.1.next hb, Y.out.2.2.2.2.1, Y.out.2.2.2.2.2.1.next hb, Y.out.2.2.2.2.2.2.1, Y.out.2.2.2.2.2.2.2⟩
  clear hb a0 a1 a2 a3 a4 a5 d0 d1
  obtain ⟨a0, a1, a2, a3, a4, a5⟩ := Y.out.2.2.2.2.2.1.c6
  obtain ⟨d0, d1⟩ := Y.out.1.c2
  obtain ⟨g0, g1, g2, g3, g4, g5⟩ := Y.out.2.2.2.2.2.1.f6
  go_wp2_with fail
  go_quiet (fail)
  rename_i nq _
  go_upto_region 13 with fail
  clear a0 a1 a2 a3 a4 a5 d0 d1 g0 g1 g2 g3 g4 g5
  have hb : Below W5.heap.size W5 _ := below_drewN (Below.refl _ _) nq
  replace Y : Hid (_ ∧ _ ∧ _ ∧ _ ∧ _ ∧ _ ∧ _ ∧ _) := ⟨Y.out.1.next hb, Y.out.2.1.next hb, Y.out.2.2.1.trans (hb.mono Y.out.2.2.1.size), Y.out.2.2.2.1.next hb, Y.out.2.2.2.2.1, Y.out.2.2.2.2.2.1.next hb, Y.out.2.2.2.2.2.2.1, Y.out.2.2.2.2.2.2.2⟩
  clear hb
  refine wp_gen (fun W => Box W (w.heap.size + 1) [.int .i64 2, .int .i64 (c + 1)] ∧ Box W (w.heap.size + 1 + 1) [.int .i64 0, .int .i64 0, .int .i64 0, .int .i64 0, .int .i64 0, .slice none 0 0] ∧ Below w.heap.size w W ∧ OwnG W 31 2 (.slice po l.length co) l.length (flatD l) lv ∧ w.heap.size + 1 + 1 < lv ∧ Box W ga [.int .i64 e, .int .i64 o, .int .i64 a, .int .i64 b, .int .i64 (c + 1), .slice po l.length co] ∧ lv ≤ ga ∧ (∀ k, (Value.slice po l.length co).ownBlock = some k → ¬ k = ga)) ?_ (fun W6 hI => ?_)
  · have hlt := Y.out.2.2.2.2.1
    have hga := Y.out.2.2.2.2.2.2.1
    refine ⟨Y.out.1.oth (by omega), Y.out.2.1.oth (by omega), bel_in Y.out.2.2.1 (by omega), Y.out.2.2.2.1.kp Kp.set Y.out.2.2.2.2.2.2.2, hlt, ?_, hga, Y.out.2.2.2.2.2.2.2⟩
    have := Y.out.2.2.2.2.2.1.set (i := 4) (u := .int .i64 (c + 1)) (by simp)
    simpa using this
  clear Y
  have Y : Hid (Box W6 (w.heap.size + 1) [.int .i64 2, .int .i64 (c + 1)] ∧ Box W6 (w.heap.size + 1 + 1) [.int .i64 0, .int .i64 0, .int .i64 0, .int .i64 0, .int .i64 0, .slice none 0 0] ∧ Below w.heap.size w W6 ∧ OwnG W6 31 2 (.slice po l.length co) l.length (flatD l) lv ∧ w.heap.size + 1 + 1 < lv ∧ Box W6 ga [.int .i64 e, .int .i64 o, .int .i64 a, .int .i64 b, .int .i64 (c + 1), .slice po l.length co] ∧ lv ≤ ga ∧ (∀ k, (Value.slice po l.length co).ownBlock = some k → ¬ k = ga)) := hI
  clear hI
  have B1 : Hid (Box (W6.alloc (.cells #[.int .i64 2, .int .i64 (c + 1)] 31)) W6.heap.size [.int .i64 2, .int .i64 (c + 1)] ∧ OwnG (W6.alloc (.cells #[.int .i64 2, .int .i64 (c + 1)] 31)) 31 2 (.slice po l.length co) l.length (flatD l) lv ∧ Below w.heap.size w W6 ∧ lv ≤ (W6.alloc (.cells #[.int .i64 2, .int .i64 (c + 1)] 31)).heap.size) := ⟨box_mk, Y.out.2.2.2.1.next (bel_alloc _ _), Y.out.2.2.1, by have := Y.out.2.2.2.2.2.1.lt; have := Y.out.2.2.2.2.2.2.1; simp; omega⟩
  have RB : Hid (GRow 0 (W6.alloc (.cells #[.int .i64 2, .int .i64 (c + 1)] 31)) (some ⟨W6.heap.size, 0, none⟩) [.int .i64 2, .int .i64 (c + 1)]) := box_row B1.out.1
  obtain ⟨a0, a1, a2, a3, a4, a5⟩ := Y.out.2.2.2.2.2.1.c6
  obtain ⟨d0, d1⟩ := Y.out.1.c2
  have hl0 := Y.out.2.2.2.2.2.1.lt
  go_wp2_with (first | (at_builtin; refine wpList_appG elD rfl _ _ rfl (.slice po l.length co) l.length (flatD l) lv (l.length + 1) rfl B1.out.2.1 B1.out.2.2.2 (some ⟨W6.heap.size, 0, none⟩) 1 1 [.int .i64 2, .int .i64 (c + 1)] rfl (by simp) (by simp [Value.oneCell']) 0 RB.out (by omega) rfl ?_) | go_in)
  clear a0 a1 a2 a3 a4 a5 d0 d1 hl0
  intro pn cn W7 hO hG _
  have kq : Kp (fun k => (Value.slice po l.length co).ownBlock = some k) (W6.alloc (.cells #[.int .i64 2, .int .i64 (c + 1)] 31)) W7 := Kp.of_gro hG
  have hbl : Below lv W6 W7 := ((bel_alloc W6 (.cells #[.int .i64 2, .int .i64 (c + 1)] 31)).mono (by have := Y.out.2.2.2.2.2.1.lt; have := Y.out.2.2.2.2.2.2.1; omega)).trans (hG.below B1.out.2.2.2 B1.out.2.1.ge)
  have Y2 : Hid (Box W7 (w.heap.size + 1 + 1) [.int .i64 0, .int .i64 0, .int .i64 0, .int .i64 0, .int .i64 0, .slice none 0 0] ∧ Below w.heap.size w W7 ∧ OwnG W7 31 2 (.slice pn (l.length + 1) cn) (l.length + 1) (flatD l ++ [.int .i64 2, .int .i64 (c + 1)]) lv ∧ w.heap.size + 1 + 1 < lv ∧ Box W7 ga [.int .i64 e, .int .i64 o, .int .i64 a, .int .i64 b, .int .i64 (c + 1), .slice po l.length co] ∧ lv ≤ ga ∧ (∀ k, (Value.slice pn (l.length + 1) cn).ownBlock = some k → ¬ k = ga)) := by
    have hlt := Y.out.2.2.2.2.1
    have hga := Y.out.2.2.2.2.2.2.1
    have hgl := Y.out.2.2.2.2.2.1.lt
    refine ⟨Y.out.2.1.bel hbl (by omega), Y.out.2.2.1.trans (hbl.mono (by omega)), hO, hlt, (Y.out.2.2.2.2.2.1.alloc (ob := (.cells #[.int .i64 2, .int .i64 (c + 1)] 31))).kp kq (fun h => Y.out.2.2.2.2.2.2.2 ga h rfl), hga, fun k hk hkg => ?_⟩
    subst hkg
    rcases hG.fresh k hk with h | h
    · exact Y.out.2.2.2.2.2.2.2 k h rfl
    · simp at h; omega
  clear hO hG kq hbl Y B1 RB
  obtain ⟨a0, a1, a2, a3, a4, a5⟩ := Y2.out.2.2.2.2.1.c6
  obtain ⟨g0, g1, g2, g3, g4, g5⟩ := Y2.out.2.2.2.2.1.f6
  go_upto_region 14 with fail
  clear a0 a1 a2 a3 a4 a5 g0 g1 g2 g3 g4 g5
  refine wp_gen (fun W => Box W (w.heap.size + 1 + 1) [.int .i64 0, .int .i64 0, .int .i64 0, .int .i64 0, .int .i64 0, .slice none 0 0] ∧ Below w.heap.size w W ∧ OwnG W 31 2 (.slice pn (l.length + 1) cn) (l.length + 1) (flatD l ++ [.int .i64 2, .int .i64 (c + 1)]) lv ∧ w.heap.size + 1 + 1 < lv ∧ Box W ga [.int .i64 e, .int .i64 o, .int .i64 a, .int .i64 b, .int .i64 (c + 1), .slice pn (l.length + 1) cn]) ?_ (fun W8 hI => ?_)
  · have hlt := Y2.out.2.2.2.1
    have hga := Y2.out.2.2.2.2.2.1
    refine ⟨Y2.out.1.oth (by omega), bel_in Y2.out.2.1 (by omega), Y2.out.2.2.1.kp Kp.set Y2.out.2.2.2.2.2.2, hlt, ?_⟩
    have := Y2.out.2.2.2.2.1.set (i := 5) (u := .slice pn (l.length + 1) cn) (by simp)
    simpa using this
  clear Y2
  have Y : Hid _ := hI
  clear hI
  obtain ⟨a0, a1, a2, a3, a4, a5⟩ := Y.out.2.2.2.2.c6
  obtain ⟨b0, b1, b2, b3, b4, b5⟩ := Y.out.1.c6
  obtain ⟨f0, f1, f2, f3, f4, f5⟩ := Y.out.1.f6
  go_wp2_with fail
  clear a0 a1 a2 a3 a4 a5 b0 b1 b2 b3 b4 b5 f0 f1 f2 f3 f4 f5
  have hlt := Y.out.2.2.2.1
  have q0 : ∀ k, (Value.slice pn (l.length + 1) cn).ownBlock = some k → ¬ k = w.heap.size + 1 + 1 := fun k hk => by have := Y.out.2.2.1.ge k hk; omega
  have Z := Y.out.1.s6 (u0 := .int .i64 e) (u1 := .int .i64 o) (u2 := .int .i64 a) (u3 := .int .i64 b) (u4 := .int .i64 (c + 1)) (u5 := .slice pn (l.length + 1) cn)
  obtain ⟨z0, z1, z2, z3, z4, z5⟩ := Z.c6
  clear Z
  refine bodyPost_ret (v := .tuple #[.agg #[.int .i64 e, .int .i64 o, .int .i64 a, .int .i64 b, .int .i64 (c + 1), .slice pn (l.length + 1) cn], .bool true, .int .i64 0]) (by simp [results, Try.results10, go_sem, z0, z1, z2, z3, z4, z5]) rfl ?_
  have HBL : Below w.heap.size w _ := bel_in (bel_in (bel_in (bel_in (bel_in (bel_in Y.out.2.1 (i := 0) (u := .int .i64 e) (g := (w.heap.size + 1 + 1)) (by omega)) (i := 1) (u := .int .i64 o) (g := (w.heap.size + 1 + 1)) (by omega)) (i := 2) (u := .int .i64 a) (g := (w.heap.size + 1 + 1)) (by omega)) (i := 3) (u := .int .i64 b) (g := (w.heap.size + 1 + 1)) (by omega)) (i := 4) (u := .int .i64 (c + 1)) (g := (w.heap.size + 1 + 1)) (by omega)) (i := 5) (u := .slice pn (l.length + 1) cn) (g := (w.heap.size + 1 + 1)) (by omega)
  have hln : (l ++ [(⟨2, c + 1⟩ : Dt)]).length = l.length + 1 := by simp
  refine ⟨pn, cn, by rw [hln], (OwnG.mr (e := 31) (c := cn) ?_).weak (Nat.le_of_lt (Nat.lt_of_le_of_lt (Nat.le_add_right _ 2) (show w.heap.size + 2 < lv by omega))), HBL⟩
  rw [hln, flatD_app]
  exact (((((Y.out.2.2.1.kp Kp.set q0).kp Kp.set q0).kp Kp.set q0).kp Kp.set q0).kp Kp.set q0).kp Kp.set q0
end Go.Proofs.Ytklajcdlacemaaa

/- l11Ack of the specification. -/
import Derived.Test.YtklajcdlacemaaaRows
import Derived.WalkKit
import Derived.WalkSpells
import Derived.WalkLawsBesides
import Derived.Deep.QuietTactic
import Derived.BigQuiet
import Derived.Deep.RegionHeld3
import Derived.Test.YtklajcdlacemaaaGt
import Derived.Test.YtklajcdlacemaaaZk
import Derived.LoopN
namespace Go.Proofs.Ytklajcdlacemaaa
open Go.RowKit
set_option linter.unusedSimpArgs false
set_option linter.unusedVariables false

section
variable {P : Program} {md : Region.Mode} {ops : Array Oper} {Q : Exit → Act → World → Prop} {S : World → Prop} {oi oj : Oper} {fuel : Nat} {listed : Array Bool} {a : Act} {w : World}
theorem wRd2 (i j : Nat) {H H2 : (Act → World → Prop) → Prop}
    (h : ∀ K' : Act → World → Prop, Shut (∀ a w, S w → (S w → wpAnyH P md ops Q S fuel (listed.setIfInBounds i true) a w) → K' a w) → H K')
    (h2 : ∀ K' : Act → World → Prop, Shut (∀ a w, S w → (S w → wpAnyH P md ops Q S fuel (listed.setIfInBounds j true) a w) → K' a w) → H2 K')
    (ho : ops[i]? = some oi := by rfl) (ho2 : ops[j]? = some oj := by rfl) (hr : Region.ready md ops listed = [i, j] := by kernel_rfl)
    (e : ∀ K', (if Region.wanted oi (yielded ops a.tmps) = true then Oper.wp P oi a w K' Q else K' (a.put oi.dst undef) w) = H K' := by
      intro K
      (try simp only [Act.put, List.getElem_toArray, List.getElem_cons_zero, List.getElem_cons_succ, List.setIfInBounds_toArray, List.set_cons_zero, List.set_cons_succ])
      rfl)
    (e2 : ∀ K', (if Region.wanted oj (yielded ops a.tmps) = true then Oper.wp P oj a w K' Q else K' (a.put oj.dst undef) w) = H2 K' := by
      intro K
      (try simp only [Act.put, List.getElem_toArray, List.getElem_cons_zero, List.getElem_cons_succ, List.setIfInBounds_toArray, List.set_cons_zero, List.set_cons_succ])
      rfl) : wpAnyH P md ops Q S (fuel + 1) listed a w := wpAnyH_ready hr (by simp) (.cons ho (fun K hK => e K ▸ h K hK) (.cons ho2 (fun K hK => e2 K ▸ h2 K hK) .nil))
end

theorem box_mid {W : World} {t1 t2 t3 : TypeId} {vs us xs : List Value} : Box (((W.alloc (.cells vs.toArray t1)).alloc (.cells us.toArray t2)).alloc (.cells xs.toArray t3)) (W.heap.size + 1) us := by
  have := (box_mk (W := W.alloc (.cells vs.toArray t1)) (t := t2) (vs := us)).alloc (ob := .cells xs.toArray t3)
  simpa using this
theorem box_end {W : World} {t1 t2 t3 : TypeId} {vs us xs : List Value} : Box (((W.alloc (.cells vs.toArray t1)).alloc (.cells us.toArray t2)).alloc (.cells xs.toArray t3)) (W.heap.size + 1 + 1) xs := by
  have := box_mk (W := (W.alloc (.cells vs.toArray t1)).alloc (.cells us.toArray t2)) (t := t3) (vs := xs)
  simpa using this
theorem bel3 (W : World) (o1 o2 o3 : Obj) : Below W.heap.size W (((W.alloc o1).alloc o2).alloc o3) := (((Below.refl _ _).alloc (Nat.le_refl _) _).alloc (by simp) _).alloc (by simp; omega) _

set_option maxRecDepth 20000 in
set_option maxHeartbeats 2000000 in
theorem lack_fence (q : Nat) (p : Option Addr) (l : List Dt) (e o a b c ep dp dn : Int) (w : World) (h : ep ≠ e) :
    Calls Try.prog 32 #[.agg #[.int .i64 e, .int .i64 o, .int .i64 a, .int .i64 b, .int .i64 c, .slice p l.length q], .int .i64 ep, .agg #[.int .i64 dp, .int .i64 dn]] w fun r w' => r = .returned (.tuple #[.agg #[.int .i64 e, .int .i64 o, .int .i64 a, .int .i64 b, .int .i64 c, .slice p l.length q], .bool false, .int .i64 12]) ∧ Below w.heap.size w w' := by
  have h1 : (ep == e) = false := beq_eq_false_iff_ne.2 h
  clear h
  go_enter Try.func32, Try.ntmps32
  go_upto_region 1 with fail
  refine wp_gen (fun W => Box W w.heap.size [.int .i64 e, .int .i64 o, .int .i64 a, .int .i64 b, .int .i64 c, .slice p l.length q] ∧ Box W (w.heap.size + 1) [.int .i64 dp, .int .i64 dn] ∧ Box W (w.heap.size + 1 + 1) [.int .i64 0, .int .i64 0, .int .i64 0, .int .i64 0, .int .i64 0, .slice none 0 0] ∧ Below w.heap.size w W) ⟨box_mk.alloc.alloc, box_mid, box_end, bel3 _ _ _ _⟩ (fun W0 hI => ?_)
  have Y : Hid _ := hI
  clear hI
  obtain ⟨a0, a1, a2, a3, a4, a5⟩ := Y.out.1.c6
  obtain ⟨d0, d1⟩ := Y.out.2.1.c2
  obtain ⟨b0, b1, b2, b3, b4, b5⟩ := Y.out.2.2.1.c6
  obtain ⟨f0, f1, f2, f3, f4, f5⟩ := Y.out.2.2.1.f6
  go_wp2_with fail
  clear a0 a1 a2 a3 a4 a5 d0 d1 b0 b1 b2 b3 b4 b5 f0 f1 f2 f3 f4 f5
  have Z := Y.out.2.2.1.s6 (u0 := .int .i64 e) (u1 := .int .i64 o) (u2 := .int .i64 a) (u3 := .int .i64 b) (u4 := .int .i64 c) (u5 := .slice p l.length q)
  obtain ⟨z0, z1, z2, z3, z4, z5⟩ := Z.c6
  clear Z
  refine bodyPost_ret (v := .tuple #[.agg #[.int .i64 e, .int .i64 o, .int .i64 a, .int .i64 b, .int .i64 c, .slice p l.length q], .bool false, .int .i64 12]) (by simp [results, Try.results32, go_sem, z0, z1, z2, z3, z4, z5]) rfl ?_
  have HBL : Below w.heap.size w _ := bel_in (bel_in (bel_in (bel_in (bel_in (bel_in Y.out.2.2.2 (i := 0) (u := .int .i64 e) (g := (w.heap.size + 1 + 1)) (by omega)) (i := 1) (u := .int .i64 o) (g := (w.heap.size + 1 + 1)) (by omega)) (i := 2) (u := .int .i64 a) (g := (w.heap.size + 1 + 1)) (by omega)) (i := 3) (u := .int .i64 b) (g := (w.heap.size + 1 + 1)) (by omega)) (i := 4) (u := .int .i64 c) (g := (w.heap.size + 1 + 1)) (by omega)) (i := 5) (u := .slice p l.length q) (g := (w.heap.size + 1 + 1)) (by omega)
  exact ⟨rfl, HBL⟩

set_option maxRecDepth 20000 in
set_option maxHeartbeats 2000000 in
theorem lack_known (q : Nat) (p : Option Addr) (l : List Dt) (e o a b c dp dn : Int) (w : World) (h0 : 0 ≤ dp) (h3 : dp < 3) (h : dn ≤ comp a b c dp) :
    Calls Try.prog 32 #[.agg #[.int .i64 e, .int .i64 o, .int .i64 a, .int .i64 b, .int .i64 c, .slice p l.length q], .int .i64 e, .agg #[.int .i64 dp, .int .i64 dn]] w fun r w' => r = .returned (.tuple #[.agg #[.int .i64 e, .int .i64 o, .int .i64 a, .int .i64 b, .int .i64 c, .slice p l.length q], .bool false, .int .i64 0]) ∧ Below w.heap.size w w' := by
  go_enter Try.func32, Try.ntmps32
  go_upto_region 1 with fail
  refine wp_gen (fun W => Box W w.heap.size [.int .i64 e, .int .i64 o, .int .i64 a, .int .i64 b, .int .i64 c, .slice p l.length q] ∧ Box W (w.heap.size + 1) [.int .i64 dp, .int .i64 dn] ∧ Box W (w.heap.size + 1 + 1) [.int .i64 0, .int .i64 0, .int .i64 0, .int .i64 0, .int .i64 0, .slice none 0 0] ∧ Below w.heap.size w W) ⟨box_mk.alloc.alloc, box_mid, box_end, bel3 _ _ _ _⟩ (fun W0 hI => ?_)
  have Y : Hid _ := hI
  clear hI
  obtain ⟨a0, a1, a2, a3, a4, a5⟩ := Y.out.1.c6
  obtain ⟨d0, d1⟩ := Y.out.2.1.c2
  go_wp2_with fail
  refine (has_any a b c dp dn _ h0 h3).mono ?_
  rintro e1 W1 ⟨rfl, hb⟩
  replace Y : Hid (Box W1 w.heap.size [.int .i64 e, .int .i64 o, .int .i64 a, .int .i64 b, .int .i64 c, .slice p l.length q] ∧ Box W1 (w.heap.size + 1) [.int .i64 dp, .int .i64 dn] ∧ Box W1 (w.heap.size + 1 + 1) [.int .i64 0, .int .i64 0, .int .i64 0, .int .i64 0, .int .i64 0, .slice none 0 0] ∧ Below w.heap.size w W1) := ⟨Y.out.1.next hb, Y.out.2.1.next hb, Y.out.2.2.1.next hb, Y.out.2.2.2.trans (hb.mono Y.out.2.2.2.size)⟩
  clear hb a0 a1 a2 a3 a4 a5 d0 d1
  rw [decide_eq_true h]
  obtain ⟨a0, a1, a2, a3, a4, a5⟩ := Y.out.1.c6
  obtain ⟨d0, d1⟩ := Y.out.2.1.c2
  obtain ⟨b0, b1, b2, b3, b4, b5⟩ := Y.out.2.2.1.c6
  obtain ⟨f0, f1, f2, f3, f4, f5⟩ := Y.out.2.2.1.f6
  go_wp2_with fail
  clear a0 a1 a2 a3 a4 a5 d0 d1 b0 b1 b2 b3 b4 b5 f0 f1 f2 f3 f4 f5
  have Z := Y.out.2.2.1.s6 (u0 := .int .i64 e) (u1 := .int .i64 o) (u2 := .int .i64 a) (u3 := .int .i64 b) (u4 := .int .i64 c) (u5 := .slice p l.length q)
  obtain ⟨z0, z1, z2, z3, z4, z5⟩ := Z.c6
  clear Z
  refine bodyPost_ret (v := .tuple #[.agg #[.int .i64 e, .int .i64 o, .int .i64 a, .int .i64 b, .int .i64 c, .slice p l.length q], .bool false, .int .i64 0]) (by simp [results, Try.results32, go_sem, z0, z1, z2, z3, z4, z5]) rfl ?_
  have HBL : Below w.heap.size w _ := bel_in (bel_in (bel_in (bel_in (bel_in (bel_in Y.out.2.2.2 (i := 0) (u := .int .i64 e) (g := (w.heap.size + 1 + 1)) (by omega)) (i := 1) (u := .int .i64 o) (g := (w.heap.size + 1 + 1)) (by omega)) (i := 2) (u := .int .i64 a) (g := (w.heap.size + 1 + 1)) (by omega)) (i := 3) (u := .int .i64 b) (g := (w.heap.size + 1 + 1)) (by omega)) (i := 4) (u := .int .i64 c) (g := (w.heap.size + 1 + 1)) (by omega)) (i := 5) (u := .slice p l.length q) (g := (w.heap.size + 1 + 1)) (by omega)
  exact ⟨rfl, HBL⟩

set_option maxRecDepth 20000 in
set_option maxHeartbeats 2000000 in
theorem lack_order0 (q : Nat) (p : Option Addr) (l : List Dt) (e o a b c dn : Int) (w : World) (hx : 0 ≤ a ∧ a ≤ 9999) (h1 : a < dn) (h2 : a + 1 ≠ dn) :
    Calls Try.prog 32 #[.agg #[.int .i64 e, .int .i64 o, .int .i64 a, .int .i64 b, .int .i64 c, .slice p l.length q], .int .i64 e, .agg #[.int .i64 0, .int .i64 dn]] w fun r w' => r = .returned (.tuple #[.agg #[.int .i64 e, .int .i64 o, .int .i64 a, .int .i64 b, .int .i64 c, .slice p l.length q], .bool false, .int .i64 17]) ∧ Below w.heap.size w w' := by
  have hw : IntKind.i64.wrap (a + 1) = a + 1 := by rw [IntKind.wrap_i64]; omega
  have h3 : (a + 1 == dn) = false := beq_eq_false_iff_ne.2 h2
  go_enter Try.func32, Try.ntmps32
  go_upto_region 1 with fail
  refine wp_gen (fun W => Box W w.heap.size [.int .i64 e, .int .i64 o, .int .i64 a, .int .i64 b, .int .i64 c, .slice p l.length q] ∧ Box W (w.heap.size + 1) [.int .i64 0, .int .i64 dn] ∧ Box W (w.heap.size + 1 + 1) [.int .i64 0, .int .i64 0, .int .i64 0, .int .i64 0, .int .i64 0, .slice none 0 0] ∧ Below w.heap.size w W) ⟨box_mk.alloc.alloc, box_mid, box_end, bel3 _ _ _ _⟩ (fun W0 hI => ?_)
  have Y : Hid _ := hI
  clear hI
  obtain ⟨a0, a1, a2, a3, a4, a5⟩ := Y.out.1.c6
  obtain ⟨d0, d1⟩ := Y.out.2.1.c2
  go_wp2_with fail
  refine (has_0false a b c dn _ h1).mono ?_
  rintro e1 W1 ⟨rfl, hb⟩
  replace Y : Hid (Box W1 w.heap.size [.int .i64 e, .int .i64 o, .int .i64 a, .int .i64 b, .int .i64 c, .slice p l.length q] ∧ Box W1 (w.heap.size + 1) [.int .i64 0, .int .i64 dn] ∧ Box W1 (w.heap.size + 1 + 1) [.int .i64 0, .int .i64 0, .int .i64 0, .int .i64 0, .int .i64 0, .slice none 0 0] ∧ Below w.heap.size w W1) := ⟨Y.out.1.next hb, Y.out.2.1.next hb, Y.out.2.2.1.next hb, Y.out.2.2.2.trans (hb.mono Y.out.2.2.2.size)⟩
  clear hb a0 a1 a2 a3 a4 a5 d0 d1
  obtain ⟨a0, a1, a2, a3, a4, a5⟩ := Y.out.1.c6
  obtain ⟨d0, d1⟩ := Y.out.2.1.c2
  obtain ⟨b0, b1, b2, b3, b4, b5⟩ := Y.out.2.2.1.c6
  obtain ⟨f0, f1, f2, f3, f4, f5⟩ := Y.out.2.2.1.f6
  go_wp2_with fail
  go_quiet (fail)
  rename_i nq _
  go_wp2_with fail
  clear a0 a1 a2 a3 a4 a5 d0 d1 b0 b1 b2 b3 b4 b5 f0 f1 f2 f3 f4 f5
  have hb : Below W1.heap.size W1 _ := below_drewN (Below.refl _ _) nq
  have Y' : Hid (_ ∧ _ ∧ _ ∧ _) := ⟨Y.out.1.next hb, Y.out.2.1.next hb, Y.out.2.2.1.next hb, Y.out.2.2.2.trans (hb.mono Y.out.2.2.2.size)⟩
  clear hb
  have Z := Y'.out.2.2.1.s6 (u0 := .int .i64 e) (u1 := .int .i64 o) (u2 := .int .i64 a) (u3 := .int .i64 b) (u4 := .int .i64 c) (u5 := .slice p l.length q)
  obtain ⟨z0, z1, z2, z3, z4, z5⟩ := Z.c6
  clear Z
  refine bodyPost_ret (v := .tuple #[.agg #[.int .i64 e, .int .i64 o, .int .i64 a, .int .i64 b, .int .i64 c, .slice p l.length q], .bool false, .int .i64 17]) (by simp [results, Try.results32, go_sem, z0, z1, z2, z3, z4, z5]) rfl ?_
  have HBL : Below w.heap.size w _ := bel_in (bel_in (bel_in (bel_in (bel_in (bel_in Y'.out.2.2.2 (i := 0) (u := .int .i64 e) (g := (w.heap.size + 1 + 1)) (by omega)) (i := 1) (u := .int .i64 o) (g := (w.heap.size + 1 + 1)) (by omega)) (i := 2) (u := .int .i64 a) (g := (w.heap.size + 1 + 1)) (by omega)) (i := 3) (u := .int .i64 b) (g := (w.heap.size + 1 + 1)) (by omega)) (i := 4) (u := .int .i64 c) (g := (w.heap.size + 1 + 1)) (by omega)) (i := 5) (u := .slice p l.length q) (g := (w.heap.size + 1 + 1)) (by omega)
  exact ⟨rfl, HBL⟩

set_option maxRecDepth 20000 in
set_option maxHeartbeats 2000000 in
theorem lack_full0 (q : Nat) (p : Option Addr) (l : List Dt) (e o a b c : Int) (w : World) (hx : 0 ≤ a ∧ a ≤ 9999) (h2 : l.length = 4096) :
    Calls Try.prog 32 #[.agg #[.int .i64 e, .int .i64 o, .int .i64 a, .int .i64 b, .int .i64 c, .slice p l.length q], .int .i64 e, .agg #[.int .i64 0, .int .i64 (a + 1)]] w fun r w' => r = .returned (.tuple #[.agg #[.int .i64 e, .int .i64 o, .int .i64 a, .int .i64 b, .int .i64 c, .slice p l.length q], .bool false, .int .i64 7]) ∧ Below w.heap.size w w' := by
  have hw : IntKind.i64.wrap (a + 1) = a + 1 := by rw [IntKind.wrap_i64]; omega
  have h3 : ((l.length : Int) == 4096) = true := by simp; omega
  clear h2
  go_enter Try.func32, Try.ntmps32
  go_upto_region 1 with fail
  refine wp_gen (fun W => Box W w.heap.size [.int .i64 e, .int .i64 o, .int .i64 a, .int .i64 b, .int .i64 c, .slice p l.length q] ∧ Box W (w.heap.size + 1) [.int .i64 0, .int .i64 (a + 1)] ∧ Box W (w.heap.size + 1 + 1) [.int .i64 0, .int .i64 0, .int .i64 0, .int .i64 0, .int .i64 0, .slice none 0 0] ∧ Below w.heap.size w W) ⟨box_mk.alloc.alloc, box_mid, box_end, bel3 _ _ _ _⟩ (fun W0 hI => ?_)
  have Y : Hid _ := hI
  clear hI
  obtain ⟨a0, a1, a2, a3, a4, a5⟩ := Y.out.1.c6
  obtain ⟨d0, d1⟩ := Y.out.2.1.c2
  go_wp2_with fail
  refine (has_0false a b c (a + 1) _ (by omega)).mono ?_
  rintro e1 W1 ⟨rfl, hb⟩
  replace Y : Hid (Box W1 w.heap.size [.int .i64 e, .int .i64 o, .int .i64 a, .int .i64 b, .int .i64 c, .slice p l.length q] ∧ Box W1 (w.heap.size + 1) [.int .i64 0, .int .i64 (a + 1)] ∧ Box W1 (w.heap.size + 1 + 1) [.int .i64 0, .int .i64 0, .int .i64 0, .int .i64 0, .int .i64 0, .slice none 0 0] ∧ Below w.heap.size w W1) := ⟨Y.out.1.next hb, Y.out.2.1.next hb, Y.out.2.2.1.next hb, Y.out.2.2.2.trans (hb.mono Y.out.2.2.2.size)⟩
  clear hb a0 a1 a2 a3 a4 a5 d0 d1
  obtain ⟨a0, a1, a2, a3, a4, a5⟩ := Y.out.1.c6
  obtain ⟨d0, d1⟩ := Y.out.2.1.c2
  obtain ⟨b0, b1, b2, b3, b4, b5⟩ := Y.out.2.2.1.c6
  obtain ⟨f0, f1, f2, f3, f4, f5⟩ := Y.out.2.2.1.f6
  go_wp2_with fail
  go_quiet (fail)
  rename_i nq _
  go_wp2_with fail
  clear a0 a1 a2 a3 a4 a5 d0 d1 b0 b1 b2 b3 b4 b5 f0 f1 f2 f3 f4 f5
  have hb : Below W1.heap.size W1 _ := below_drewN (Below.refl _ _) nq
  have Y' : Hid (_ ∧ _ ∧ _ ∧ _) := ⟨Y.out.1.next hb, Y.out.2.1.next hb, Y.out.2.2.1.next hb, Y.out.2.2.2.trans (hb.mono Y.out.2.2.2.size)⟩
  clear hb
  have Z := Y'.out.2.2.1.s6 (u0 := .int .i64 e) (u1 := .int .i64 o) (u2 := .int .i64 a) (u3 := .int .i64 b) (u4 := .int .i64 c) (u5 := .slice p l.length q)
  obtain ⟨z0, z1, z2, z3, z4, z5⟩ := Z.c6
  clear Z
  refine bodyPost_ret (v := .tuple #[.agg #[.int .i64 e, .int .i64 o, .int .i64 a, .int .i64 b, .int .i64 c, .slice p l.length q], .bool false, .int .i64 7]) (by simp [results, Try.results32, go_sem, z0, z1, z2, z3, z4, z5]) rfl ?_
  have HBL : Below w.heap.size w _ := bel_in (bel_in (bel_in (bel_in (bel_in (bel_in Y'.out.2.2.2 (i := 0) (u := .int .i64 e) (g := (w.heap.size + 1 + 1)) (by omega)) (i := 1) (u := .int .i64 o) (g := (w.heap.size + 1 + 1)) (by omega)) (i := 2) (u := .int .i64 a) (g := (w.heap.size + 1 + 1)) (by omega)) (i := 3) (u := .int .i64 b) (g := (w.heap.size + 1 + 1)) (by omega)) (i := 4) (u := .int .i64 c) (g := (w.heap.size + 1 + 1)) (by omega)) (i := 5) (u := .slice p l.length q) (g := (w.heap.size + 1 + 1)) (by omega)
  exact ⟨rfl, HBL⟩

set_option maxRecDepth 20000 in
set_option maxHeartbeats 2000000 in
theorem lack_order1 (q : Nat) (p : Option Addr) (l : List Dt) (e o a b c dn : Int) (w : World) (hx : 0 ≤ b ∧ b ≤ 9999) (h1 : b < dn) (h2 : b + 1 ≠ dn) :
    Calls Try.prog 32 #[.agg #[.int .i64 e, .int .i64 o, .int .i64 a, .int .i64 b, .int .i64 c, .slice p l.length q], .int .i64 e, .agg #[.int .i64 1, .int .i64 dn]] w fun r w' => r = .returned (.tuple #[.agg #[.int .i64 e, .int .i64 o, .int .i64 a, .int .i64 b, .int .i64 c, .slice p l.length q], .bool false, .int .i64 17]) ∧ Below w.heap.size w w' := by
  have hw : IntKind.i64.wrap (b + 1) = b + 1 := by rw [IntKind.wrap_i64]; omega
  have h3 : (b + 1 == dn) = false := beq_eq_false_iff_ne.2 h2
  go_enter Try.func32, Try.ntmps32
  go_upto_region 1 with fail
  refine wp_gen (fun W => Box W w.heap.size [.int .i64 e, .int .i64 o, .int .i64 a, .int .i64 b, .int .i64 c, .slice p l.length q] ∧ Box W (w.heap.size + 1) [.int .i64 1, .int .i64 dn] ∧ Box W (w.heap.size + 1 + 1) [.int .i64 0, .int .i64 0, .int .i64 0, .int .i64 0, .int .i64 0, .slice none 0 0] ∧ Below w.heap.size w W) ⟨box_mk.alloc.alloc, box_mid, box_end, bel3 _ _ _ _⟩ (fun W0 hI => ?_)
  have Y : Hid _ := hI
  clear hI
  obtain ⟨a0, a1, a2, a3, a4, a5⟩ := Y.out.1.c6
  obtain ⟨d0, d1⟩ := Y.out.2.1.c2
  go_wp2_with fail
  refine (has_1false a b c dn _ h1).mono ?_
  rintro e1 W1 ⟨rfl, hb⟩
  replace Y : Hid (Box W1 w.heap.size [.int .i64 e, .int .i64 o, .int .i64 a, .int .i64 b, .int .i64 c, .slice p l.length q] ∧ Box W1 (w.heap.size + 1) [.int .i64 1, .int .i64 dn] ∧ Box W1 (w.heap.size + 1 + 1) [.int .i64 0, .int .i64 0, .int .i64 0, .int .i64 0, .int .i64 0, .slice none 0 0] ∧ Below w.heap.size w W1) := ⟨Y.out.1.next hb, Y.out.2.1.next hb, Y.out.2.2.1.next hb, Y.out.2.2.2.trans (hb.mono Y.out.2.2.2.size)⟩
  clear hb a0 a1 a2 a3 a4 a5 d0 d1
  obtain ⟨a0, a1, a2, a3, a4, a5⟩ := Y.out.1.c6
  obtain ⟨d0, d1⟩ := Y.out.2.1.c2
  obtain ⟨b0, b1, b2, b3, b4, b5⟩ := Y.out.2.2.1.c6
  obtain ⟨f0, f1, f2, f3, f4, f5⟩ := Y.out.2.2.1.f6
  go_wp2_with fail
  go_quiet (fail)
  rename_i nq _
  go_wp2_with fail
  clear a0 a1 a2 a3 a4 a5 d0 d1 b0 b1 b2 b3 b4 b5 f0 f1 f2 f3 f4 f5
  have hb : Below W1.heap.size W1 _ := below_drewN (Below.refl _ _) nq
  have Y' : Hid (_ ∧ _ ∧ _ ∧ _) := ⟨Y.out.1.next hb, Y.out.2.1.next hb, Y.out.2.2.1.next hb, Y.out.2.2.2.trans (hb.mono Y.out.2.2.2.size)⟩
  clear hb
  have Z := Y'.out.2.2.1.s6 (u0 := .int .i64 e) (u1 := .int .i64 o) (u2 := .int .i64 a) (u3 := .int .i64 b) (u4 := .int .i64 c) (u5 := .slice p l.length q)
  obtain ⟨z0, z1, z2, z3, z4, z5⟩ := Z.c6
  clear Z
  refine bodyPost_ret (v := .tuple #[.agg #[.int .i64 e, .int .i64 o, .int .i64 a, .int .i64 b, .int .i64 c, .slice p l.length q], .bool false, .int .i64 17]) (by simp [results, Try.results32, go_sem, z0, z1, z2, z3, z4, z5]) rfl ?_
  have HBL : Below w.heap.size w _ := bel_in (bel_in (bel_in (bel_in (bel_in (bel_in Y'.out.2.2.2 (i := 0) (u := .int .i64 e) (g := (w.heap.size + 1 + 1)) (by omega)) (i := 1) (u := .int .i64 o) (g := (w.heap.size + 1 + 1)) (by omega)) (i := 2) (u := .int .i64 a) (g := (w.heap.size + 1 + 1)) (by omega)) (i := 3) (u := .int .i64 b) (g := (w.heap.size + 1 + 1)) (by omega)) (i := 4) (u := .int .i64 c) (g := (w.heap.size + 1 + 1)) (by omega)) (i := 5) (u := .slice p l.length q) (g := (w.heap.size + 1 + 1)) (by omega)
  exact ⟨rfl, HBL⟩

set_option maxRecDepth 20000 in
set_option maxHeartbeats 2000000 in
theorem lack_full1 (q : Nat) (p : Option Addr) (l : List Dt) (e o a b c : Int) (w : World) (hx : 0 ≤ b ∧ b ≤ 9999) (h2 : l.length = 4096) :
    Calls Try.prog 32 #[.agg #[.int .i64 e, .int .i64 o, .int .i64 a, .int .i64 b, .int .i64 c, .slice p l.length q], .int .i64 e, .agg #[.int .i64 1, .int .i64 (b + 1)]] w fun r w' => r = .returned (.tuple #[.agg #[.int .i64 e, .int .i64 o, .int .i64 a, .int .i64 b, .int .i64 c, .slice p l.length q], .bool false, .int .i64 7]) ∧ Below w.heap.size w w' := by
  have hw : IntKind.i64.wrap (b + 1) = b + 1 := by rw [IntKind.wrap_i64]; omega
  have h3 : ((l.length : Int) == 4096) = true := by simp; omega
  clear h2
  go_enter Try.func32, Try.ntmps32
  go_upto_region 1 with fail
  refine wp_gen (fun W => Box W w.heap.size [.int .i64 e, .int .i64 o, .int .i64 a, .int .i64 b, .int .i64 c, .slice p l.length q] ∧ Box W (w.heap.size + 1) [.int .i64 1, .int .i64 (b + 1)] ∧ Box W (w.heap.size + 1 + 1) [.int .i64 0, .int .i64 0, .int .i64 0, .int .i64 0, .int .i64 0, .slice none 0 0] ∧ Below w.heap.size w W) ⟨box_mk.alloc.alloc, box_mid, box_end, bel3 _ _ _ _⟩ (fun W0 hI => ?_)
  have Y : Hid _ := hI
  clear hI
  obtain ⟨a0, a1, a2, a3, a4, a5⟩ := Y.out.1.c6
  obtain ⟨d0, d1⟩ := Y.out.2.1.c2
  go_wp2_with fail
  refine (has_1false a b c (b + 1) _ (by omega)).mono ?_
  rintro e1 W1 ⟨rfl, hb⟩
  replace Y : Hid (Box W1 w.heap.size [.int .i64 e, .int .i64 o, .int .i64 a, .int .i64 b, .int .i64 c, .slice p l.length q] ∧ Box W1 (w.heap.size + 1) [.int .i64 1, .int .i64 (b + 1)] ∧ Box W1 (w.heap.size + 1 + 1) [.int .i64 0, .int .i64 0, .int .i64 0, .int .i64 0, .int .i64 0, .slice none 0 0] ∧ Below w.heap.size w W1) := ⟨Y.out.1.next hb, Y.out.2.1.next hb, Y.out.2.2.1.next hb, Y.out.2.2.2.trans (hb.mono Y.out.2.2.2.size)⟩
  clear hb a0 a1 a2 a3 a4 a5 d0 d1
  obtain ⟨a0, a1, a2, a3, a4, a5⟩ := Y.out.1.c6
  obtain ⟨d0, d1⟩ := Y.out.2.1.c2
  obtain ⟨b0, b1, b2, b3, b4, b5⟩ := Y.out.2.2.1.c6
  obtain ⟨f0, f1, f2, f3, f4, f5⟩ := Y.out.2.2.1.f6
  go_wp2_with fail
  go_quiet (fail)
  rename_i nq _
  go_wp2_with fail
  clear a0 a1 a2 a3 a4 a5 d0 d1 b0 b1 b2 b3 b4 b5 f0 f1 f2 f3 f4 f5
  have hb : Below W1.heap.size W1 _ := below_drewN (Below.refl _ _) nq
  have Y' : Hid (_ ∧ _ ∧ _ ∧ _) := ⟨Y.out.1.next hb, Y.out.2.1.next hb, Y.out.2.2.1.next hb, Y.out.2.2.2.trans (hb.mono Y.out.2.2.2.size)⟩
  clear hb
  have Z := Y'.out.2.2.1.s6 (u0 := .int .i64 e) (u1 := .int .i64 o) (u2 := .int .i64 a) (u3 := .int .i64 b) (u4 := .int .i64 c) (u5 := .slice p l.length q)
  obtain ⟨z0, z1, z2, z3, z4, z5⟩ := Z.c6
  clear Z
  refine bodyPost_ret (v := .tuple #[.agg #[.int .i64 e, .int .i64 o, .int .i64 a, .int .i64 b, .int .i64 c, .slice p l.length q], .bool false, .int .i64 7]) (by simp [results, Try.results32, go_sem, z0, z1, z2, z3, z4, z5]) rfl ?_
  have HBL : Below w.heap.size w _ := bel_in (bel_in (bel_in (bel_in (bel_in (bel_in Y'.out.2.2.2 (i := 0) (u := .int .i64 e) (g := (w.heap.size + 1 + 1)) (by omega)) (i := 1) (u := .int .i64 o) (g := (w.heap.size + 1 + 1)) (by omega)) (i := 2) (u := .int .i64 a) (g := (w.heap.size + 1 + 1)) (by omega)) (i := 3) (u := .int .i64 b) (g := (w.heap.size + 1 + 1)) (by omega)) (i := 4) (u := .int .i64 c) (g := (w.heap.size + 1 + 1)) (by omega)) (i := 5) (u := .slice p l.length q) (g := (w.heap.size + 1 + 1)) (by omega)
  exact ⟨rfl, HBL⟩

set_option maxRecDepth 20000 in
set_option maxHeartbeats 2000000 in
theorem lack_order2 (q : Nat) (p : Option Addr) (l : List Dt) (e o a b c dn : Int) (w : World) (hx : 0 ≤ c ∧ c ≤ 9999) (h1 : c < dn) (h2 : c + 1 ≠ dn) :
    Calls Try.prog 32 #[.agg #[.int .i64 e, .int .i64 o, .int .i64 a, .int .i64 b, .int .i64 c, .slice p l.length q], .int .i64 e, .agg #[.int .i64 2, .int .i64 dn]] w fun r w' => r = .returned (.tuple #[.agg #[.int .i64 e, .int .i64 o, .int .i64 a, .int .i64 b, .int .i64 c, .slice p l.length q], .bool false, .int .i64 17]) ∧ Below w.heap.size w w' := by
  have hw : IntKind.i64.wrap (c + 1) = c + 1 := by rw [IntKind.wrap_i64]; omega
  have h3 : (c + 1 == dn) = false := beq_eq_false_iff_ne.2 h2
  go_enter Try.func32, Try.ntmps32
  go_upto_region 1 with fail
  refine wp_gen (fun W => Box W w.heap.size [.int .i64 e, .int .i64 o, .int .i64 a, .int .i64 b, .int .i64 c, .slice p l.length q] ∧ Box W (w.heap.size + 1) [.int .i64 2, .int .i64 dn] ∧ Box W (w.heap.size + 1 + 1) [.int .i64 0, .int .i64 0, .int .i64 0, .int .i64 0, .int .i64 0, .slice none 0 0] ∧ Below w.heap.size w W) ⟨box_mk.alloc.alloc, box_mid, box_end, bel3 _ _ _ _⟩ (fun W0 hI => ?_)
  have Y : Hid _ := hI
  clear hI
  obtain ⟨a0, a1, a2, a3, a4, a5⟩ := Y.out.1.c6
  obtain ⟨d0, d1⟩ := Y.out.2.1.c2
  go_wp2_with fail
  refine (has_2false a b c dn _ h1).mono ?_
  rintro e1 W1 ⟨rfl, hb⟩
  replace Y : Hid (Box W1 w.heap.size [.int .i64 e, .int .i64 o, .int .i64 a, .int .i64 b, .int .i64 c, .slice p l.length q] ∧ Box W1 (w.heap.size + 1) [.int .i64 2, .int .i64 dn] ∧ Box W1 (w.heap.size + 1 + 1) [.int .i64 0, .int .i64 0, .int .i64 0, .int .i64 0, .int .i64 0, .slice none 0 0] ∧ Below w.heap.size w W1) := ⟨Y.out.1.next hb, Y.out.2.1.next hb, Y.out.2.2.1.next hb, Y.out.2.2.2.trans (hb.mono Y.out.2.2.2.size)⟩
  clear hb a0 a1 a2 a3 a4 a5 d0 d1
  obtain ⟨a0, a1, a2, a3, a4, a5⟩ := Y.out.1.c6
  obtain ⟨d0, d1⟩ := Y.out.2.1.c2
  obtain ⟨b0, b1, b2, b3, b4, b5⟩ := Y.out.2.2.1.c6
  obtain ⟨f0, f1, f2, f3, f4, f5⟩ := Y.out.2.2.1.f6
  go_wp2_with fail
  go_quiet (fail)
  rename_i nq _
  go_wp2_with fail
  clear a0 a1 a2 a3 a4 a5 d0 d1 b0 b1 b2 b3 b4 b5 f0 f1 f2 f3 f4 f5
  have hb : Below W1.heap.size W1 _ := below_drewN (Below.refl _ _) nq
  have Y' : Hid (_ ∧ _ ∧ _ ∧ _) := ⟨Y.out.1.next hb, Y.out.2.1.next hb, Y.out.2.2.1.next hb, Y.out.2.2.2.trans (hb.mono Y.out.2.2.2.size)⟩
  clear hb
  have Z := Y'.out.2.2.1.s6 (u0 := .int .i64 e) (u1 := .int .i64 o) (u2 := .int .i64 a) (u3 := .int .i64 b) (u4 := .int .i64 c) (u5 := .slice p l.length q)
  obtain ⟨z0, z1, z2, z3, z4, z5⟩ := Z.c6
  clear Z
  refine bodyPost_ret (v := .tuple #[.agg #[.int .i64 e, .int .i64 o, .int .i64 a, .int .i64 b, .int .i64 c, .slice p l.length q], .bool false, .int .i64 17]) (by simp [results, Try.results32, go_sem, z0, z1, z2, z3, z4, z5]) rfl ?_
  have HBL : Below w.heap.size w _ := bel_in (bel_in (bel_in (bel_in (bel_in (bel_in Y'.out.2.2.2 (i := 0) (u := .int .i64 e) (g := (w.heap.size + 1 + 1)) (by omega)) (i := 1) (u := .int .i64 o) (g := (w.heap.size + 1 + 1)) (by omega)) (i := 2) (u := .int .i64 a) (g := (w.heap.size + 1 + 1)) (by omega)) (i := 3) (u := .int .i64 b) (g := (w.heap.size + 1 + 1)) (by omega)) (i := 4) (u := .int .i64 c) (g := (w.heap.size + 1 + 1)) (by omega)) (i := 5) (u := .slice p l.length q) (g := (w.heap.size + 1 + 1)) (by omega)
  exact ⟨rfl, HBL⟩

set_option maxRecDepth 20000 in
set_option maxHeartbeats 2000000 in
theorem lack_full2 (q : Nat) (p : Option Addr) (l : List Dt) (e o a b c : Int) (w : World) (hx : 0 ≤ c ∧ c ≤ 9999) (h2 : l.length = 4096) :
    Calls Try.prog 32 #[.agg #[.int .i64 e, .int .i64 o, .int .i64 a, .int .i64 b, .int .i64 c, .slice p l.length q], .int .i64 e, .agg #[.int .i64 2, .int .i64 (c + 1)]] w fun r w' => r = .returned (.tuple #[.agg #[.int .i64 e, .int .i64 o, .int .i64 a, .int .i64 b, .int .i64 c, .slice p l.length q], .bool false, .int .i64 7]) ∧ Below w.heap.size w w' := by
  have hw : IntKind.i64.wrap (c + 1) = c + 1 := by rw [IntKind.wrap_i64]; omega
  have h3 : ((l.length : Int) == 4096) = true := by simp; omega
  clear h2
  go_enter Try.func32, Try.ntmps32
  go_upto_region 1 with fail
  refine wp_gen (fun W => Box W w.heap.size [.int .i64 e, .int .i64 o, .int .i64 a, .int .i64 b, .int .i64 c, .slice p l.length q] ∧ Box W (w.heap.size + 1) [.int .i64 2, .int .i64 (c + 1)] ∧ Box W (w.heap.size + 1 + 1) [.int .i64 0, .int .i64 0, .int .i64 0, .int .i64 0, .int .i64 0, .slice none 0 0] ∧ Below w.heap.size w W) ⟨box_mk.alloc.alloc, box_mid, box_end, bel3 _ _ _ _⟩ (fun W0 hI => ?_)
  have Y : Hid _ := hI
  clear hI
  obtain ⟨a0, a1, a2, a3, a4, a5⟩ := Y.out.1.c6
  obtain ⟨d0, d1⟩ := Y.out.2.1.c2
  go_wp2_with fail
  refine (has_2false a b c (c + 1) _ (by omega)).mono ?_
  rintro e1 W1 ⟨rfl, hb⟩
  replace Y : Hid (Box W1 w.heap.size [.int .i64 e, .int .i64 o, .int .i64 a, .int .i64 b, .int .i64 c, .slice p l.length q] ∧ Box W1 (w.heap.size + 1) [.int .i64 2, .int .i64 (c + 1)] ∧ Box W1 (w.heap.size + 1 + 1) [.int .i64 0, .int .i64 0, .int .i64 0, .int .i64 0, .int .i64 0, .slice none 0 0] ∧ Below w.heap.size w W1) := ⟨Y.out.1.next hb, Y.out.2.1.next hb, Y.out.2.2.1.next hb, Y.out.2.2.2.trans (hb.mono Y.out.2.2.2.size)⟩
  clear hb a0 a1 a2 a3 a4 a5 d0 d1
  obtain ⟨a0, a1, a2, a3, a4, a5⟩ := Y.out.1.c6
  obtain ⟨d0, d1⟩ := Y.out.2.1.c2
  obtain ⟨b0, b1, b2, b3, b4, b5⟩ := Y.out.2.2.1.c6
  obtain ⟨f0, f1, f2, f3, f4, f5⟩ := Y.out.2.2.1.f6
  go_wp2_with fail
  go_quiet (fail)
  rename_i nq _
  go_wp2_with fail
  clear a0 a1 a2 a3 a4 a5 d0 d1 b0 b1 b2 b3 b4 b5 f0 f1 f2 f3 f4 f5
  have hb : Below W1.heap.size W1 _ := below_drewN (Below.refl _ _) nq
  have Y' : Hid (_ ∧ _ ∧ _ ∧ _) := ⟨Y.out.1.next hb, Y.out.2.1.next hb, Y.out.2.2.1.next hb, Y.out.2.2.2.trans (hb.mono Y.out.2.2.2.size)⟩
  clear hb
  have Z := Y'.out.2.2.1.s6 (u0 := .int .i64 e) (u1 := .int .i64 o) (u2 := .int .i64 a) (u3 := .int .i64 b) (u4 := .int .i64 c) (u5 := .slice p l.length q)
  obtain ⟨z0, z1, z2, z3, z4, z5⟩ := Z.c6
  clear Z
  refine bodyPost_ret (v := .tuple #[.agg #[.int .i64 e, .int .i64 o, .int .i64 a, .int .i64 b, .int .i64 c, .slice p l.length q], .bool false, .int .i64 7]) (by simp [results, Try.results32, go_sem, z0, z1, z2, z3, z4, z5]) rfl ?_
  have HBL : Below w.heap.size w _ := bel_in (bel_in (bel_in (bel_in (bel_in (bel_in Y'.out.2.2.2 (i := 0) (u := .int .i64 e) (g := (w.heap.size + 1 + 1)) (by omega)) (i := 1) (u := .int .i64 o) (g := (w.heap.size + 1 + 1)) (by omega)) (i := 2) (u := .int .i64 a) (g := (w.heap.size + 1 + 1)) (by omega)) (i := 3) (u := .int .i64 b) (g := (w.heap.size + 1 + 1)) (by omega)) (i := 4) (u := .int .i64 c) (g := (w.heap.size + 1 + 1)) (by omega)) (i := 5) (u := .slice p l.length q) (g := (w.heap.size + 1 + 1)) (by omega)
  exact ⟨rfl, HBL⟩
end Go.Proofs.Ytklajcdlacemaaa

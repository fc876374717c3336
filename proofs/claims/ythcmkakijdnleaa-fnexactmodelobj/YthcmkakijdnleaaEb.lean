/- Alike events are told so. -/
import Derived.Test.YthcmkakijdnleaaRows
import Derived.WalkKit
import Derived.WalkSpells
import Derived.WalkLawsBesides
import Derived.Deep.QuietTactic
import Derived.BigQuiet
import Derived.Deep.RegionHeld3
import Derived.Test.YthcmkakijdnleaaEa
import Derived.LoopN
namespace Go.Proofs.Ythcmkakijdnleaa
open Go.RowKit
set_option linter.unusedSimpArgs false
set_option linter.unusedVariables false

set_option maxHeartbeats 400000 in
theorem eqDot_same (x y : Int) (w : World) :
    Calls Try.prog 58 #[.agg #[.int .i64 x, .int .i64 y], .agg #[.int .i64 x, .int .i64 y]] w fun e w' => e = .returned (.bool true) ∧ Below w.heap.size w w' := by
  go_enter Try.func58, Try.ntmps58
  go_wp2
  go_ret
  refine ⟨rfl, ?_⟩
  repeat (first | exact Below.refl _ _ | refine Below.drew ?_ | refine below_drewN ?_ _ | refine Below.alloc ?_ (by first | (simp; done) | (simp; omega)) _ | refine Below.setCell ?_ (by first | (simp; done) | (simp; omega)) _)
set_option maxHeartbeats 1000000 in
theorem eqVv_same (a b c : Int) (w : World) :
    Calls Try.prog 46 #[.agg #[.int .i64 a, .int .i64 b, .int .i64 c], .agg #[.int .i64 a, .int .i64 b, .int .i64 c]] w fun e w' => e = .returned (.bool true) ∧ Below w.heap.size w w' := by
  go_enter Try.func46, Try.ntmps46
  go_wp2
  refine wp_loop_rounds 4 ?_
  repeat (rw [rounds_succ]; go_wp2; (try (go_quiet (fail); go_wp2)))
  go_ret
  refine ⟨rfl, ?_⟩
  repeat (first | exact Below.refl _ _ | refine Below.drew ?_ | refine below_drewN ?_ _ | refine Below.alloc ?_ (by first | (simp; done) | (simp; omega)) _ | refine Below.setCell ?_ (by first | (simp; done) | (simp; omega)) _)
set_option maxRecDepth 20000 in
set_option maxHeartbeats 1000000 in
theorem eqE_same (x : Ev) (w : World) :
    Calls Try.prog 36 #[.agg #[.int .i64 x.p, .int .i64 x.n, .string x.key, .int .i64 x.v, .bool x.dead, .int .i64 x.a, .int .i64 x.b, .int .i64 x.c], .agg #[.int .i64 x.p, .int .i64 x.n, .string x.key, .int .i64 x.v, .bool x.dead, .int .i64 x.a, .int .i64 x.b, .int .i64 x.c]] w fun e w' => e = .returned (.bool true) ∧ Below w.heap.size w w' := by
  have hb0 : Hid (∀ o1 o2, Below w.heap.size w ((w.alloc o1).alloc o2)) := fun o1 o2 => ((Below.refl _ _).alloc (Nat.le_refl _) _).alloc (by simp) _
  go_enter Try.func36, Try.ntmps36
  go_upto_region 1 with fail
  refine wp_gen (fun W => Box W w.heap.size [.int .i64 x.p, .int .i64 x.n, .string x.key, .int .i64 x.v, .bool x.dead, .int .i64 x.a, .int .i64 x.b, .int .i64 x.c] ∧ Box W (w.heap.size + 1) [.int .i64 x.p, .int .i64 x.n, .string x.key, .int .i64 x.v, .bool x.dead, .int .i64 x.a, .int .i64 x.b, .int .i64 x.c] ∧ Below w.heap.size w W) ⟨box_mk.alloc, ?_, hb0.out _ _⟩ (fun W0 hI => ?_)
  · have := box_mk (W := w.alloc (.cells #[.int .i64 x.p, .int .i64 x.n, .string x.key, .int .i64 x.v, .bool x.dead, .int .i64 x.a, .int .i64 x.b, .int .i64 x.c] 56)) (t := 56) (vs := [.int .i64 x.p, .int .i64 x.n, .string x.key, .int .i64 x.v, .bool x.dead, .int .i64 x.a, .int .i64 x.b, .int .i64 x.c])
    simpa using this
  have Y : Hid (Box W0 w.heap.size [.int .i64 x.p, .int .i64 x.n, .string x.key, .int .i64 x.v, .bool x.dead, .int .i64 x.a, .int .i64 x.b, .int .i64 x.c] ∧ Box W0 (w.heap.size + 1) [.int .i64 x.p, .int .i64 x.n, .string x.key, .int .i64 x.v, .bool x.dead, .int .i64 x.a, .int .i64 x.b, .int .i64 x.c] ∧ Below w.heap.size w W0) := hI
  clear hI hb0
  obtain ⟨a0, a1, a2, a3, a4, a5, a6, a7⟩ := Y.out.1.c8
  obtain ⟨b0, b1, b2, b3, b4, b5, b6, b7⟩ := Y.out.2.1.c8
  go_wp2_with fail
  refine (eqDot_same x.p x.n _).mono ?_
  rintro e1 W1 ⟨rfl, hb⟩
  replace Y : Hid (Box W1 w.heap.size [.int .i64 x.p, .int .i64 x.n, .string x.key, .int .i64 x.v, .bool x.dead, .int .i64 x.a, .int .i64 x.b, .int .i64 x.c] ∧ Box W1 (w.heap.size + 1) [.int .i64 x.p, .int .i64 x.n, .string x.key, .int .i64 x.v, .bool x.dead, .int .i64 x.a, .int .i64 x.b, .int .i64 x.c] ∧ Below w.heap.size w W1) := ⟨Y.out.1.next hb, Y.out.2.1.next hb, Y.out.2.2.trans (hb.mono Y.out.2.2.size)⟩
  clear hb a0 a1 a2 a3 a4 a5 a6 a7 b0 b1 b2 b3 b4 b5 b6 b7
  obtain ⟨a0, a1, a2, a3, a4, a5, a6, a7⟩ := Y.out.1.c8
  obtain ⟨b0, b1, b2, b3, b4, b5, b6, b7⟩ := Y.out.2.1.c8
  go_wp2_with fail
  refine (eqVv_same x.a x.b x.c _).mono ?_
  rintro e1 W2 ⟨rfl, hb⟩
  have hB : Hid (Below w.heap.size w W2) := Y.out.2.2.trans (hb.mono Y.out.2.2.size)
  clear hb a0 a1 a2 a3 a4 a5 a6 a7 b0 b1 b2 b3 b4 b5 b6 b7 Y
  go_wp2
  go_ret
  exact ⟨rfl, hB.out⟩
theorem e_keep16 {W w1 : World} {b off c oft k : Nat} {x : Ev} (hb : Below W.drew.heap.size W.drew w1) (h : EAt W b (off + k * 8) x ∧ EAt W c (oft + k * 8) x) : w1.cell? ⟨b, off + k * 8, none⟩ = some (.int .i64 x.p) ∧ w1.cell? ⟨b, off + k * 8 + 1, none⟩ = some (.int .i64 x.n) ∧ w1.cell? ⟨b, off + k * 8 + 2, none⟩ = some (.string x.key) ∧ w1.cell? ⟨b, off + k * 8 + 3, none⟩ = some (.int .i64 x.v) ∧ w1.cell? ⟨b, off + k * 8 + 4, none⟩ = some (.bool x.dead) ∧ w1.cell? ⟨b, off + k * 8 + 5, none⟩ = some (.int .i64 x.a) ∧ w1.cell? ⟨b, off + k * 8 + 6, none⟩ = some (.int .i64 x.b) ∧ w1.cell? ⟨b, off + k * 8 + 7, none⟩ = some (.int .i64 x.c) ∧ w1.cell? ⟨c, oft + k * 8, none⟩ = some (.int .i64 x.p) ∧ w1.cell? ⟨c, oft + k * 8 + 1, none⟩ = some (.int .i64 x.n) ∧ w1.cell? ⟨c, oft + k * 8 + 2, none⟩ = some (.string x.key) ∧ w1.cell? ⟨c, oft + k * 8 + 3, none⟩ = some (.int .i64 x.v) ∧ w1.cell? ⟨c, oft + k * 8 + 4, none⟩ = some (.bool x.dead) ∧ w1.cell? ⟨c, oft + k * 8 + 5, none⟩ = some (.int .i64 x.a) ∧ w1.cell? ⟨c, oft + k * 8 + 6, none⟩ = some (.int .i64 x.b) ∧ w1.cell? ⟨c, oft + k * 8 + 7, none⟩ = some (.int .i64 x.c) := by
  have h1 := h.1.next hb (cell_lt (x := ⟨b, off + k * 8, none⟩) h.1.1)
  have h2 := h.2.next hb (cell_lt (x := ⟨c, oft + k * 8, none⟩) h.2.1)
  obtain ⟨a0, a1, a2, a3, a4, a5, a6, a7⟩ := h1
  obtain ⟨b0, b1, b2, b3, b4, b5, b6, b7⟩ := h2
  exact ⟨a0, a1, a2, a3, a4, a5, a6, a7, b0, b1, b2, b3, b4, b5, b6, b7⟩
set_option maxRecDepth 20000 in
set_option maxHeartbeats 2000000 in
theorem eqEs_same (lo lo2 q q2 n : Nat) (p p2 : Option Addr) (ms : List Ev) (w : World) (hl : ms.length = n) (hm : (n : Int) ≤ 1048576) (hr0 : GRow lo w p (flatE ms)) (hs0 : GRow lo2 w p2 (flatE ms)) :
    Calls Try.prog 11 #[.slice p n q, .slice p2 n q2] w fun e w' => e = .returned (.bool true) ∧ Below w.heap.size w w' := by
  have hr : Hid _ := hr0.e
  have ht : Hid _ := hs0.e
  have HL : Hid (ms.length = n) := hl
  clear hr0 hs0 hl
  go_enter Try.func11, Try.ntmps11
  go_wp2
  go_loopw [5] (fun s5 wr => ∃ k : Nat, k ≤ n ∧ s5 = .int .i64 k ∧ Below w.heap.size w wr) (fun s5 _ => n - (intOf s5).toNat)
  case atStart => exact ⟨0, by omega, rfl, Below.refl _ _⟩
  case round =>
    obtain ⟨k, hk, rfl, hB0⟩ := hrel
    have hB : Hid (Below w.heap.size w wr) := hB0
    clear hB0
    by_cases hkl : k < n
    · have hkl' : (k : Int) < (n : Int) := by omega
      have hk1 : k < ms.length := by rw [HL.out]; exact hkl
      rcases hr.out with h' | ⟨b, off, rfl, _, h2⟩
      · rw [h'] at hk1; simp at hk1
      rcases ht.out with h' | ⟨c, oft, rfl, _, h3⟩
      · rw [h'] at hk1; simp at hk1
      have X : Hid (EAt wr b (off + k * 8) ms[k]) := (h2 k hk1).next hB.out (cell_lt (x := ⟨b, off + k * 8, none⟩) (h2 k hk1).1)
      have Y : Hid (EAt wr c (oft + k * 8) ms[k]) := (h3 k hk1).next hB.out (cell_lt (x := ⟨c, oft + k * 8, none⟩) (h3 k hk1).1)
      have k0 : (0 : Int) ≤ (k : Int) := by omega
      clear h2 h3 hr ht
      generalize ms[k] = x at *
      obtain ⟨x0, x1, x2, x3, x4, x5, x6, x7⟩ := X.out
      obtain ⟨y0, y1, y2, y3, y4, y5, y6, y7⟩ := Y.out
      go_wp2_with fail
      go_region_held3 (fun w' => w'.cell? ⟨b, off + k * 8, none⟩ = some (.int .i64 x.p) ∧ w'.cell? ⟨b, off + k * 8 + 1, none⟩ = some (.int .i64 x.n) ∧ w'.cell? ⟨b, off + k * 8 + 2, none⟩ = some (.string x.key) ∧ w'.cell? ⟨b, off + k * 8 + 3, none⟩ = some (.int .i64 x.v) ∧ w'.cell? ⟨b, off + k * 8 + 4, none⟩ = some (.bool x.dead) ∧ w'.cell? ⟨b, off + k * 8 + 5, none⟩ = some (.int .i64 x.a) ∧ w'.cell? ⟨b, off + k * 8 + 6, none⟩ = some (.int .i64 x.b) ∧ w'.cell? ⟨b, off + k * 8 + 7, none⟩ = some (.int .i64 x.c) ∧ w'.cell? ⟨c, oft + k * 8, none⟩ = some (.int .i64 x.p) ∧ w'.cell? ⟨c, oft + k * 8 + 1, none⟩ = some (.int .i64 x.n) ∧ w'.cell? ⟨c, oft + k * 8 + 2, none⟩ = some (.string x.key) ∧ w'.cell? ⟨c, oft + k * 8 + 3, none⟩ = some (.int .i64 x.v) ∧ w'.cell? ⟨c, oft + k * 8 + 4, none⟩ = some (.bool x.dead) ∧ w'.cell? ⟨c, oft + k * 8 + 5, none⟩ = some (.int .i64 x.a) ∧ w'.cell? ⟨c, oft + k * 8 + 6, none⟩ = some (.int .i64 x.b) ∧ w'.cell? ⟨c, oft + k * 8 + 7, none⟩ = some (.int .i64 x.c)) (first | (with_reducible assumption) | exact ⟨x0, x1, x2, x3, x4, x5, x6, x7, y0, y1, y2, y3, y4, y5, y6, y7⟩) (first | (go_at_call 36; refine (eqE_same x _).mono ?_; rintro e w1 ⟨rfl, hb⟩; have hK := e_keep16 hb ⟨X.out, Y.out⟩))
      have hB1 : Hid (Below w.heap.size w w1) := hB.out.drew.trans (hb.mono hB.out.size)
      clear hb hK X Y x0 x1 x2 x3 x4 x5 x6 x7 y0 y1 y2 y3 y4 y5 y6 y7
      go_wp2
      go_roundw
      case rel => exact ⟨k + 1, by omega, by go_num, hB1.out⟩
      case measure => simp [intOf]; omega
    · have hkl' : ¬ (k : Int) < (n : Int) := by omega
      go_wp2
      go_ret
      exact ⟨rfl, hB.out⟩
end Go.Proofs.Ythcmkakijdnleaa

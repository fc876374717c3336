/- Alike groups are told so; marks. -/
import Derived.Test.YtklajcdlacemaaaRows
import Derived.WalkKit
import Derived.WalkSpells
import Derived.WalkLawsBesides
import Derived.Deep.QuietTactic
import Derived.BigQuiet
import Derived.Deep.RegionHeld3
import Derived.Test.YtklajcdlacemaaaGd
import Derived.LoopN
namespace Go.Proofs.Ytklajcdlacemaaa
open Go.RowKit
set_option linter.unusedSimpArgs false
set_option linter.unusedVariables false

set_option maxHeartbeats 400000 in
theorem eqDot_same (x y : Int) (w : World) :
    Calls Try.prog 50 #[.agg #[.int .i64 x, .int .i64 y], .agg #[.int .i64 x, .int .i64 y]] w fun e w' => e = .returned (.bool true) ∧ Below w.heap.size w w' := by
  go_enter Try.func50, Try.ntmps50
  go_wp2
  go_ret
  refine ⟨rfl, ?_⟩
  repeat (first | exact Below.refl _ _ | refine Below.drew ?_ | refine below_drewN ?_ _ | refine Below.alloc ?_ (by first | (simp; done) | (simp; omega)) _ | refine Below.setCell ?_ (by first | (simp; done) | (simp; omega)) _)
set_option maxHeartbeats 1000000 in
theorem eqVv_same (a b c : Int) (w : World) :
    Calls Try.prog 36 #[.agg #[.int .i64 a, .int .i64 b, .int .i64 c], .agg #[.int .i64 a, .int .i64 b, .int .i64 c]] w fun e w' => e = .returned (.bool true) ∧ Below w.heap.size w w' := by
  go_enter Try.func36, Try.ntmps36
  go_wp2
  refine wp_loop_rounds 4 ?_
  repeat (rw [rounds_succ]; go_wp2; (try (go_quiet (fail); go_wp2)))
  go_ret
  refine ⟨rfl, ?_⟩
  repeat (first | exact Below.refl _ _ | refine Below.drew ?_ | refine below_drewN ?_ _ | refine Below.alloc ?_ (by first | (simp; done) | (simp; omega)) _ | refine Below.setCell ?_ (by first | (simp; done) | (simp; omega)) _)
theorem d_keep4 {W w1 : World} {b o c q : Nat} {x y : Dt} (hb : Below W.drew.heap.size W.drew w1) (x0 : W.cell? ⟨b, o, none⟩ = some (.int .i64 x.p)) (x1 : W.cell? ⟨b, o + 1, none⟩ = some (.int .i64 x.n)) (y0 : W.cell? ⟨c, q, none⟩ = some (.int .i64 y.p)) (y1 : W.cell? ⟨c, q + 1, none⟩ = some (.int .i64 y.n)) :
    w1.cell? ⟨b, o, none⟩ = some (.int .i64 x.p) ∧ w1.cell? ⟨b, o + 1, none⟩ = some (.int .i64 x.n) ∧ w1.cell? ⟨c, q, none⟩ = some (.int .i64 y.p) ∧ w1.cell? ⟨c, q + 1, none⟩ = some (.int .i64 y.n) := by
  have k1 := cell_lt (x := ⟨b, o, none⟩) x0
  have k2 := cell_lt (x := ⟨c, q, none⟩) y0
  exact ⟨cell_next hb x0 k1, cell_next hb x1 k1, cell_next hb y0 k2, cell_next hb y1 k2⟩
set_option maxHeartbeats 1000000 in
theorem eqDs_same (lo lo2 q q2 : Nat) (p p2 : Option Addr) (l : List Dt) (w : World) (hm : (l.length : Int) ≤ 1048576) (hr0 : GRow lo w p (flatD l)) (hs0 : GRow lo2 w p2 (flatD l)) :
    Calls Try.prog 37 #[.slice p l.length q, .slice p2 l.length q2] w fun e w' => e = .returned (.bool true) ∧ Below w.heap.size w w' := by
  have hr : Hid _ := hr0.d
  have hs : Hid _ := hs0.d
  clear hr0 hs0
  go_enter Try.func37, Try.ntmps37
  go_wp2
  go_loopw [5] (fun s5 wr => ∃ k : Nat, k ≤ l.length ∧ s5 = .int .i64 k ∧ Below w.heap.size w wr) (fun s5 _ => l.length - (intOf s5).toNat)
  case atStart => exact ⟨0, by omega, rfl, Below.refl _ _⟩
  case round =>
    obtain ⟨k, hk, rfl, hB0⟩ := hrel
    have hB : Hid (Below w.heap.size w wr) := hB0
    clear hB0
    by_cases hkl : k < l.length
    · have hkl' : (k : Int) < (l.length : Int) := by omega
      rcases hr.out with h' | ⟨b, off, rfl, _, h2⟩
      · rw [h'] at hkl; simp at hkl
      rcases hs.out with h' | ⟨c, oft, rfl, _, h3⟩
      · rw [h'] at hkl; simp at hkl
      obtain ⟨x0, x1⟩ := (h2 k hkl).next hB.out (cell_lt (x := ⟨b, off + k * 2, none⟩) (h2 k hkl).1)
      obtain ⟨y0, y1⟩ := (h3 k hkl).next hB.out (cell_lt (x := ⟨c, oft + k * 2, none⟩) (h3 k hkl).1)
      have k0 : (0 : Int) ≤ (k : Int) := by omega
      clear h2 h3
      go_wp2_with fail
      go_region_held3 (fun w' => w'.cell? ⟨b, off + k * 2, none⟩ = some (.int .i64 l[k].p) ∧ w'.cell? ⟨b, off + k * 2 + 1, none⟩ = some (.int .i64 l[k].n) ∧ w'.cell? ⟨c, oft + k * 2, none⟩ = some (.int .i64 l[k].p) ∧ w'.cell? ⟨c, oft + k * 2 + 1, none⟩ = some (.int .i64 l[k].n)) (first | (with_reducible assumption) | exact ⟨x0, x1, y0, y1⟩) (first | (go_at_call 50; refine (eqDot_same l[k].p l[k].n _).mono ?_; rintro e w1 ⟨rfl, hb⟩; have hK := d_keep4 hb x0 x1 y0 y1))
      have hB1 : Hid (Below w.heap.size w w1) := hB.out.drew.trans (hb.mono hB.out.size)
      clear hb hK
      go_wp2
      go_roundw
      case rel => exact ⟨k + 1, by omega, by go_num, hB1.out⟩
      case measure => simp [intOf]; omega
    · have hkl' : ¬ (k : Int) < (l.length : Int) := by omega
      go_wp2
      go_ret
      exact ⟨rfl, hB.out⟩
set_option maxHeartbeats 1000000 in
theorem eqG_same (lo lo2 q q2 : Nat) (p p2 : Option Addr) (l : List Dt) (e o a b c : Int) (w : World) (hm : (l.length : Int) ≤ 1048576) (hr0 : GRow lo w p (flatD l)) (hs0 : GRow lo2 w p2 (flatD l)) :
    Calls Try.prog 17 #[.agg #[.int .i64 e, .int .i64 o, .int .i64 a, .int .i64 b, .int .i64 c, .slice p l.length q], .agg #[.int .i64 e, .int .i64 o, .int .i64 a, .int .i64 b, .int .i64 c, .slice p2 l.length q2]] w fun r w' => r = .returned (.bool true) ∧ Below w.heap.size w w' := by
  have hb0 : Hid (∀ o1 o2, Below w.heap.size w ((w.alloc o1).alloc o2)) := fun o1 o2 => ((Below.refl _ _).alloc (Nat.le_refl _) _).alloc (by simp) _
  have hr : Hid (GRow lo w p (flatD l)) := hr0
  have hs : Hid (GRow lo2 w p2 (flatD l)) := hs0
  clear hr0 hs0
  go_enter Try.func17, Try.ntmps17
  go_upto_region 1 with fail
  refine wp_gen (fun W => Box W w.heap.size [.int .i64 e, .int .i64 o, .int .i64 a, .int .i64 b, .int .i64 c, .slice p l.length q] ∧ Box W (w.heap.size + 1) [.int .i64 e, .int .i64 o, .int .i64 a, .int .i64 b, .int .i64 c, .slice p2 l.length q2] ∧ Below w.heap.size w W) ⟨box_mk.alloc, ?_, hb0.out _ _⟩ (fun W0 hI => ?_)
  · have := box_mk (W := w.alloc (.cells #[.int .i64 e, .int .i64 o, .int .i64 a, .int .i64 b, .int .i64 c, .slice p l.length q] 27)) (t := 27) (vs := [.int .i64 e, .int .i64 o, .int .i64 a, .int .i64 b, .int .i64 c, .slice p2 l.length q2])
    simpa using this
  have Y : Hid _ := hI
  clear hI hb0
  obtain ⟨a0, a1, a2, a3, a4, a5⟩ := Y.out.1.c6
  obtain ⟨b0, b1, b2, b3, b4, b5⟩ := Y.out.2.1.c6
  go_wp2_with fail
  refine (eqVv_same a b c _).mono ?_
  rintro e1 W1 ⟨rfl, hb⟩
  replace Y : Hid (Box W1 w.heap.size [.int .i64 e, .int .i64 o, .int .i64 a, .int .i64 b, .int .i64 c, .slice p l.length q] ∧ Box W1 (w.heap.size + 1) [.int .i64 e, .int .i64 o, .int .i64 a, .int .i64 b, .int .i64 c, .slice p2 l.length q2] ∧ Below w.heap.size w W1) := ⟨Y.out.1.next hb, Y.out.2.1.next hb, Y.out.2.2.trans (hb.mono Y.out.2.2.size)⟩
  clear hb a0 a1 a2 a3 a4 a5 b0 b1 b2 b3 b4 b5
  obtain ⟨a0, a1, a2, a3, a4, a5⟩ := Y.out.1.c6
  obtain ⟨b0, b1, b2, b3, b4, b5⟩ := Y.out.2.1.c6
  go_wp2_with fail
  refine (eqDs_same lo lo2 q q2 p p2 l _ hm (hr.out.next Y.out.2.2) (hs.out.next Y.out.2.2)).mono ?_
  rintro e1 W2 ⟨rfl, hb⟩
  have hB : Hid (Below w.heap.size w W2) := Y.out.2.2.trans (hb.mono Y.out.2.2.size)
  clear hb a0 a1 a2 a3 a4 a5 b0 b1 b2 b3 b4 b5 Y
  go_wp2
  go_ret
  exact ⟨rfl, hB.out⟩
/-- The i-th mark from k on. -/
def mkd (k : Int) (i : Nat) : Dt := ⟨k + 2 * i, k + 2 * i + 1⟩
def Marked (w : World) (g : Nat) (k : Int) (n : Nat) : Prop := ∀ i, i < n → DAt w g (i * 2) (mkd k i)
theorem Marked.next {w w' : World} {g n : Nat} {k : Int} (h : Marked w g k n) (hb : Below w.heap.size w w') (hg : g < w.heap.size) : Marked w' g k n := fun i hi => (h i hi).next hb hg
set_option maxHeartbeats 2000000 in
theorem markS_any (g n q : Nat) (k : Int) (w : World) (hn : n ≤ 1048576) (h0 : 0 ≤ k) (hk : k ≤ 100000000) (hT0 : There w g (n * 2)) :
    Calls Try.prog 38 #[.slice (some ⟨g, 0, none⟩) n q, .int .i64 k] w fun e w' => e = .returned (.int .i64 (k + 2 * n)) ∧ w.grownBy w' (some g) ∧ Marked w' g k n := by
  have hT : Hid (There w g (n * 2)) := hT0
  clear hT0
  go_enter Try.func38, Try.ntmps38
  go_wp2
  go_loopw [1, 5] (fun s1 s5 wr => ∃ j : Nat, j ≤ n ∧ s5 = .int .i64 j ∧ s1 = .int .i64 (k + 2 * j) ∧ w.grownBy wr (some g) ∧ There wr g (n * 2) ∧ Marked wr g k j) (fun _ s5 _ => n - (intOf s5).toNat)
  case atStart => exact ⟨0, by omega, rfl, by simp, gb_refl _ _, hT.out, fun i hi => by omega⟩
  case round =>
    obtain ⟨j, hj, rfl, rfl, hG0, hT0, hM0⟩ := hrel
    have hG : Hid (w.grownBy wr (some g)) := hG0
    have hT1 : Hid (There wr g (n * 2)) := hT0
    have hM : Hid (Marked wr g k j) := hM0
    clear hG0 hT0 hT hM0
    by_cases hjn : j < n
    · have hjn' : (j : Int) < (n : Int) := by omega
      have j0 : (0 : Int) ≤ (j : Int) := by omega
      obtain ⟨v0, y0⟩ := Option.isSome_iff_exists.1 (hT1.out (j * 2) (by omega)).1
      obtain ⟨v1, y1⟩ := Option.isSome_iff_exists.1 (hT1.out (j * 2 + 1) (by omega)).1
      have z0 := (hT1.out (j * 2) (by omega)).2
      have z1 := (hT1.out (j * 2 + 1) (by omega)).2
      go_wp2
      go_roundw
      case rel =>
        refine ⟨j + 1, by omega, by go_num, by go_num, gb_trans (gb_trans hG.out (gb_set _ _ _ _)) (gb_set _ _ _ _), hT1.out.set.set, fun i hi => ?_⟩
        by_cases e : i = j
        · subst e; exact There.put2 (x := mkd k i) hT1.out (by omega)
        · exact (hM.out i (by omega)).kept (by omega)
      case measure => simp [intOf]; omega
    · have hjn' : ¬ (j : Int) < (n : Int) := by omega
      have e : j = n := by omega
      subst e
      go_wp2
      go_ret
      exact ⟨rfl, hG.out, hM.out⟩
set_option maxHeartbeats 2000000 in
theorem heldS_any (g n q : Nat) (k : Int) (w : World) (hn : n ≤ 1048576) (h0 : 0 ≤ k) (hk : k ≤ 100000000) (hM0 : Marked w g k n) :
    Calls Try.prog 39 #[.slice (some ⟨g, 0, none⟩) n q, .int .i64 k] w fun e w' => e = .returned (.int .i64 (k + 2 * n)) ∧ w' = w := by
  have hM : Hid (Marked w g k n) := hM0
  clear hM0
  go_enter Try.func39, Try.ntmps39
  go_wp2
  go_loopw [1, 5] (fun s1 s5 wr => ∃ j : Nat, j ≤ n ∧ s5 = .int .i64 j ∧ s1 = .int .i64 (k + 2 * j) ∧ wr = w) (fun _ s5 _ => n - (intOf s5).toNat)
  case atStart => exact ⟨0, by omega, rfl, by simp, rfl⟩
  case round =>
    obtain ⟨j, hj, rfl, rfl, rfl⟩ := hrel
    by_cases hjn : j < n
    · have hjn' : (j : Int) < (n : Int) := by omega
      have j0 : (0 : Int) ≤ (j : Int) := by omega
      obtain ⟨y0, y1⟩ := hM.out j hjn
      dsimp only [mkd] at y0 y1
      go_wp2
      go_roundw
      case rel => first | exact ⟨j + 1, by omega, by go_num, by go_num, trivial⟩ | exact ⟨j + 1, by omega, by go_num, by go_num, rfl⟩ | ((repeat apply Exists.intro); exact ⟨⟨j + 1, by omega, by go_num, by go_num, rfl⟩, rfl⟩)
      case measure => simp [intOf]; omega
    · have hjn' : ¬ (j : Int) < (n : Int) := by omega
      have e : j = n := by omega
      subst e
      go_wp2
      go_ret
      exact ⟨rfl, rfl⟩
set_option maxHeartbeats 1000000 in
theorem mark0_any (q : Nat) (p : Option Addr) (k : Int) (w : World) :
    Calls Try.prog 38 #[.slice p 0 q, .int .i64 k] w fun e w' => e = .returned (.int .i64 k) ∧ w' = w := by
  go_enter Try.func38, Try.ntmps38
  go_wp2
  go_loopw [1, 5] (fun s1 s5 wr => s5 = .int .i64 0 ∧ s1 = .int .i64 k ∧ wr = w) (fun _ s5 _ => 0)
  case atStart => exact ⟨rfl, rfl, rfl⟩
  case round =>
    obtain ⟨rfl, rfl, rfl⟩ := hrel
    go_wp2
    go_ret
    exact ⟨rfl, rfl⟩
set_option maxHeartbeats 1000000 in
theorem held0_any (q : Nat) (p : Option Addr) (k : Int) (w : World) :
    Calls Try.prog 39 #[.slice p 0 q, .int .i64 k] w fun e w' => e = .returned (.int .i64 k) ∧ w' = w := by
  go_enter Try.func39, Try.ntmps39
  go_wp2
  go_loopw [1, 5] (fun s1 s5 wr => s5 = .int .i64 0 ∧ s1 = .int .i64 k ∧ wr = w) (fun _ s5 _ => 0)
  case atStart => exact ⟨rfl, rfl, rfl⟩
  case round =>
    obtain ⟨rfl, rfl, rfl⟩ := hrel
    go_wp2
    go_ret
    exact ⟨rfl, rfl⟩
/-- A row that is marked, in blocks from lo on. -/
def MkR (lo : Nat) (w : World) (p : Option Addr) (k : Int) (n : Nat) : Prop := n = 0 ∨ ∃ g, p = some ⟨g, 0, none⟩ ∧ lo ≤ g ∧ g < w.heap.size ∧ Marked w g k n
theorem MkR.next {lo : Nat} {w w' : World} {p : Option Addr} {k : Int} {n : Nat} (h : MkR lo w p k n) (hb : Below w.heap.size w w') : MkR lo w' p k n := by
  rcases h with h | ⟨g, rfl, hl, hg, hM⟩
  · exact .inl h
  · exact .inr ⟨g, rfl, hl, Nat.lt_of_lt_of_le hg hb.size, hM.next hb hg⟩
/-- What a mark changes: blocks of the row alone. -/
theorem markR_any (lo q : Nat) (p : Option Addr) (l : List Dt) (k : Int) (w : World) (hn : l.length ≤ 1048576) (h0 : 0 ≤ k) (hk : k ≤ 100000000) (hT : MR lo w p l) :
    Calls Try.prog 38 #[.slice p l.length q, .int .i64 k] w fun e w' => e = .returned (.int .i64 (k + 2 * l.length)) ∧ Kp (fun b => l ≠ [] ∧ ∃ x, p = some x ∧ x.block = b) w w' ∧ MkR lo w' p k l.length := by
  by_cases hz : l = []
  · subst hz
    refine (mark0_any q p k w).mono ?_
    rintro e w' ⟨rfl, rfl⟩
    exact ⟨by simp, Kp.of_below (Below.refl _ _), .inl rfl⟩
  rcases hT.wr with h' | ⟨g, rfl, hl, hg, hT⟩
  · exact (hz h').elim
  · refine (markS_any g l.length q k w hn h0 hk hT).mono ?_
    rintro e w' ⟨rfl, hb, hM⟩
    exact ⟨rfl, ⟨hb.os, hb.tape, hb.output, hb.size, fun b hb' hne => hb.block b hb' (fun e => by cases e; exact hne ⟨hz, _, rfl, rfl⟩)⟩, .inr ⟨g, rfl, hl, Nat.lt_of_lt_of_le hg hb.size, hM⟩⟩
theorem heldR_any (lo n q : Nat) (p : Option Addr) (k : Int) (w : World) (hn : n ≤ 1048576) (h0 : 0 ≤ k) (hk : k ≤ 100000000) (hT : MkR lo w p k n) :
    Calls Try.prog 39 #[.slice p n q, .int .i64 k] w fun e w' => e = .returned (.int .i64 (k + 2 * n)) ∧ w' = w := by
  rcases hT with rfl | ⟨g, rfl, hl, hg, hT⟩
  · refine (held0_any q p k w).mono ?_
    rintro e w' ⟨rfl, rfl⟩
    exact ⟨by simp, rfl⟩
  · exact heldS_any g n q k w hn h0 hk hT
set_option maxHeartbeats 1000000 in
theorem markG_any (lo q : Nat) (p : Option Addr) (l : List Dt) (e o a b c k : Int) (w : World) (hn : l.length ≤ 1048576) (h0 : 0 ≤ k) (hk : k ≤ 100000000) (hT0 : MR lo w p l) :
    Calls Try.prog 18 #[.agg #[.int .i64 e, .int .i64 o, .int .i64 a, .int .i64 b, .int .i64 c, .slice p l.length q], .int .i64 k] w fun r w' => r = .returned (.int .i64 (k + 2 * l.length)) ∧ Kp (fun b => l ≠ [] ∧ ∃ x, p = some x ∧ x.block = b) w w' ∧ MkR lo w' p k l.length := by
  have hT : Hid (MR lo w p l) := hT0
  clear hT0
  go_enter Try.func18, Try.ntmps18
  go_wp2_with fail
  refine (markR_any lo q p l k _ hn h0 hk (hT.out.next (bel_alloc _ _))).mono ?_
  rintro e w1 ⟨rfl, hb, hM⟩
  have hG : Hid (Kp (fun b => l ≠ [] ∧ ∃ x, p = some x ∧ x.block = b) w w1) := (Kp.of_below (E := fun _ => False) (bel_alloc _ _)).trans hb (fun _ _ h => h.elim) (fun _ _ h => h)
  have HM : Hid (MkR lo w1 p k l.length) := hM
  clear hb hM
  go_wp2
  go_ret
  exact ⟨rfl, hG.out, HM.out⟩
set_option maxHeartbeats 1000000 in
theorem heldG_any (lo n q : Nat) (p : Option Addr) (e o a b c k : Int) (w : World) (hn : n ≤ 1048576) (h0 : 0 ≤ k) (hk : k ≤ 100000000) (hT0 : MkR lo w p k n) :
    Calls Try.prog 19 #[.agg #[.int .i64 e, .int .i64 o, .int .i64 a, .int .i64 b, .int .i64 c, .slice p n q], .int .i64 k] w fun r w' => r = .returned (.int .i64 (k + 2 * n)) ∧ Below w.heap.size w w' := by
  have hT : Hid (MkR lo w p k n) := hT0
  clear hT0
  have hnn : ¬ k + 2 * (n : Int) < 0 := by omega
  go_enter Try.func19, Try.ntmps19
  go_wp2_with fail
  refine (heldR_any lo n q p k _ hn h0 hk (hT.out.next (bel_alloc _ _))).mono ?_
  rintro e w1 ⟨rfl, rfl⟩
  go_wp2
  go_ret
  exact ⟨rfl, bel_alloc _ _⟩
end Go.Proofs.Ytklajcdlacemaaa

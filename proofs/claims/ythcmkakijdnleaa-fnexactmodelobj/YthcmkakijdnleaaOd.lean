/- Siblings and objects in the laws. -/
import Derived.Test.YthcmkakijdnleaaRows
import Derived.WalkKit
import Derived.WalkSpells
import Derived.WalkLawsBesides
import Derived.Deep.QuietTactic
import Derived.BigQuiet
import Derived.Deep.RegionHeld3
import Derived.Test.YthcmkakijdnleaaOc
import Derived.Test.YthcmkakijdnleaaEb
import Derived.LoopN
import Derived.OwnWalk
import Derived.Laws.StructEq
namespace Go.Proofs.Ythcmkakijdnleaa
open Go.RowKit
set_option linter.unusedSimpArgs false
set_option linter.unusedVariables false

set_option maxHeartbeats 2000000 in
theorem eqSb_same (x : Sb) (w : World) : Calls Try.prog 68 #[.agg #[.int .i64 x.p, .int .i64 x.n, .int .i64 x.v, .bool x.dead], .agg #[.int .i64 x.p, .int .i64 x.n, .int .i64 x.v, .bool x.dead]] w fun e w' => e = .returned (.bool true) ∧ Below w.heap.size w w' := by
  have hb0 : Hid (∀ o1 o2, Below w.heap.size w ((w.alloc o1).alloc o2)) := fun o1 o2 => ((Below.refl _ _).alloc (Nat.le_refl _) _).alloc (by simp) _
  go_enter Try.func68, Try.ntmps68
  go_upto_region 1 with fail
  refine wp_gen (fun W => Box W w.heap.size [.int .i64 x.p, .int .i64 x.n, .int .i64 x.v, .bool x.dead] ∧ Box W (w.heap.size + 1) [.int .i64 x.p, .int .i64 x.n, .int .i64 x.v, .bool x.dead] ∧ Below w.heap.size w W) ⟨box_mk.next (bel_alloc _ _), ?_, hb0.out _ _⟩ (fun W0 hI => ?_)
  · have := box_mk (W := w.alloc (.cells #[.int .i64 x.p, .int .i64 x.n, .int .i64 x.v, .bool x.dead] 72)) (t := 72) (vs := [.int .i64 x.p, .int .i64 x.n, .int .i64 x.v, .bool x.dead])
    simpa using this
  have Y : Hid (Box W0 w.heap.size [.int .i64 x.p, .int .i64 x.n, .int .i64 x.v, .bool x.dead] ∧ Box W0 (w.heap.size + 1) [.int .i64 x.p, .int .i64 x.n, .int .i64 x.v, .bool x.dead] ∧ Below w.heap.size w W0) := hI
  clear hI hb0
  obtain ⟨a0, a1, a2, a3⟩ := Y.out.1.c4
  obtain ⟨b0, b1, b2, b3⟩ := Y.out.2.1.c4
  go_wp2_with fail
  refine (eqDot_same x.p x.n _).mono ?_
  rintro e1 W1 ⟨rfl, hb⟩
  replace Y : Hid (Box W1 w.heap.size [.int .i64 x.p, .int .i64 x.n, .int .i64 x.v, .bool x.dead] ∧ Box W1 (w.heap.size + 1) [.int .i64 x.p, .int .i64 x.n, .int .i64 x.v, .bool x.dead] ∧ Below w.heap.size w W1) := ⟨Y.out.1.next hb, Y.out.2.1.next hb, Y.out.2.2.trans (hb.mono Y.out.2.2.size)⟩
  clear hb a0 a1 a2 a3 b0 b1 b2 b3
  obtain ⟨a0, a1, a2, a3⟩ := Y.out.1.c4
  obtain ⟨b0, b1, b2, b3⟩ := Y.out.2.1.c4
  have hB : Hid (Below w.heap.size w W1) := Y.out.2.2
  clear Y
  go_wp2
  go_ret
  exact ⟨rfl, hB.out⟩
theorem s_keep8 {W w1 : World} {b off c oft k : Nat} {x : Sb} (hb : Below W.drew.heap.size W.drew w1) (h : SAt W b (off + k * 4) x ∧ SAt W c (oft + k * 4) x) : w1.cell? ⟨b, off + k * 4, none⟩ = some (.int .i64 x.p) ∧ w1.cell? ⟨b, off + k * 4 + 1, none⟩ = some (.int .i64 x.n) ∧ w1.cell? ⟨b, off + k * 4 + 2, none⟩ = some (.int .i64 x.v) ∧ w1.cell? ⟨b, off + k * 4 + 3, none⟩ = some (.bool x.dead) ∧ w1.cell? ⟨c, oft + k * 4, none⟩ = some (.int .i64 x.p) ∧ w1.cell? ⟨c, oft + k * 4 + 1, none⟩ = some (.int .i64 x.n) ∧ w1.cell? ⟨c, oft + k * 4 + 2, none⟩ = some (.int .i64 x.v) ∧ w1.cell? ⟨c, oft + k * 4 + 3, none⟩ = some (.bool x.dead) := by
  have h1 := SAt.next (w := W.drew) (h.1.next (bel_drew W) (cell_lt (x := ⟨b, off + k * 4, none⟩) h.1.1)) hb (Nat.lt_of_lt_of_le (cell_lt (x := ⟨b, off + k * 4, none⟩) h.1.1) (bel_drew W).size)
  have h2 := SAt.next (w := W.drew) (h.2.next (bel_drew W) (cell_lt (x := ⟨c, oft + k * 4, none⟩) h.2.1)) hb (Nat.lt_of_lt_of_le (cell_lt (x := ⟨c, oft + k * 4, none⟩) h.2.1) (bel_drew W).size)
  obtain ⟨a0, a1, a2, a3⟩ := h1
  obtain ⟨b0, b1, b2, b3⟩ := h2
  exact ⟨a0, a1, a2, a3, b0, b1, b2, b3⟩
set_option maxRecDepth 20000 in
set_option maxHeartbeats 2000000 in
theorem eqSs_same (lo lo2 q q2 n : Nat) (p p2 : Option Addr) (ms : List Sb) (w : World) (hl : ms.length = n) (hm : (n : Int) ≤ 1048576) (hr0 : GRow lo w p (flatS ms)) (hs0 : GRow lo2 w p2 (flatS ms)) :
    Calls Try.prog 45 #[.slice p n q, .slice p2 n q2] w fun e w' => e = .returned (.bool true) ∧ Below w.heap.size w w' := by
  have hr : Hid _ := hr0
  have ht : Hid _ := hs0
  have HL : Hid (ms.length = n) := hl
  clear hr0 hs0 hl
  go_enter Try.func45, Try.ntmps45
  go_wp2
  go_loopw [5] (fun s5 wr => ∃ k : Nat, k ≤ n ∧ s5 = .int .i64 k ∧ Below w.heap.size w wr) (fun s5 _ => n - (intOf s5).toNat)
  case atStart => exact ⟨0, by omega, rfl, Below.refl _ _⟩
  case round =>
    obtain ⟨k, hk, rfl, hB0⟩ := hrel
    have hB : Hid (Below w.heap.size w wr) := hB0
    clear hB0
    by_cases hkl : k < n
    · have hkl' : (k : Int) < (n : Int) := by omega
      have hk1 : k < ms.length := by rw [HL.out]; exact hkl
      rcases hr.out with h' | ⟨b, off, rfl, _, h2⟩
      · have := congrArg List.length h'
        rw [flatS_len, List.length_nil] at this
        omega
      rcases ht.out with h' | ⟨c, oft, rfl, _, h3⟩
      · have := congrArg List.length h'
        rw [flatS_len, List.length_nil] at this
        omega
      have X0 := grow_sat (lo := 0) h2 hk1
      have Y0 := grow_sat (lo := 0) h3 hk1
      have X : Hid (SAt wr b (off + k * 4) ms[k]) := X0.next hB.out (cell_lt (x := ⟨b, off + k * 4, none⟩) X0.1)
      have Y : Hid (SAt wr c (oft + k * 4) ms[k]) := Y0.next hB.out (cell_lt (x := ⟨c, oft + k * 4, none⟩) Y0.1)
      have k0 : (0 : Int) ≤ (k : Int) := by omega
      clear h2 h3 hr ht X0 Y0
      generalize ms[k] = x at *
      obtain ⟨x0, x1, x2, x3⟩ := X.out
      obtain ⟨y0, y1, y2, y3⟩ := Y.out
      go_wp2_with fail
      go_region_held3 (fun w' => w'.cell? ⟨b, off + k * 4, none⟩ = some (.int .i64 x.p) ∧ w'.cell? ⟨b, off + k * 4 + 1, none⟩ = some (.int .i64 x.n) ∧ w'.cell? ⟨b, off + k * 4 + 2, none⟩ = some (.int .i64 x.v) ∧ w'.cell? ⟨b, off + k * 4 + 3, none⟩ = some (.bool x.dead) ∧ w'.cell? ⟨c, oft + k * 4, none⟩ = some (.int .i64 x.p) ∧ w'.cell? ⟨c, oft + k * 4 + 1, none⟩ = some (.int .i64 x.n) ∧ w'.cell? ⟨c, oft + k * 4 + 2, none⟩ = some (.int .i64 x.v) ∧ w'.cell? ⟨c, oft + k * 4 + 3, none⟩ = some (.bool x.dead)) (first | (with_reducible assumption) | exact ⟨x0, x1, x2, x3, y0, y1, y2, y3⟩) (first | (go_at_call 68; refine (eqSb_same x _).mono ?_; rintro e w1 ⟨rfl, hb⟩; have hK := s_keep8 hb ⟨X.out, Y.out⟩))
      have hB1 : Hid (Below w.heap.size w w1) := hB.out.drew.trans (hb.mono hB.out.size)
      clear hb hK X Y x0 x1 x2 x3 y0 y1 y2 y3
      go_wp2
      go_roundw
      case rel => exact ⟨k + 1, by omega, by go_num, hB1.out⟩
      case measure => simp [intOf]; omega
    · have hkl' : ¬ (k : Int) < (n : Int) := by omega
      go_wp2
      go_ret
      exact ⟨rfl, hB.out⟩

/-- The j-th sibling's marks. -/
def SMk (w : World) (g j : Nat) : Prop := ∃ c : Int, c = 1 + 4 * (j : Int) ∧ w.cell? ⟨g, j * 4, none⟩ = some (.int .i64 c) ∧ w.cell? ⟨g, j * 4 + 1, none⟩ = some (.int .i64 (c + 1)) ∧ w.cell? ⟨g, j * 4 + 2, none⟩ = some (.int .i64 (c + 1 + 1)) ∧ w.cell? ⟨g, j * 4 + 3, none⟩ = some (.bool ((c + 1 + 1 + 1).tmod 3 == 0))
theorem SMk.next {w w' : World} {g j : Nat} (h : SMk w g j) (hb : Below w.heap.size w w') (hg : g < w.heap.size) : SMk w' g j := by
  obtain ⟨c, hc, h0, h1, h2, h3⟩ := h
  exact ⟨c, hc, cell_next hb h0 hg, cell_next hb h1 hg, cell_next hb h2 hg, cell_next hb h3 hg⟩
theorem SMk.oth {w : World} {g j o : Nat} {u : Value} (h : SMk w g j) (ho : o < j * 4 ∨ j * 4 + 3 < o) : SMk (w.setCell ⟨g, o, none⟩ u) g j := by
  obtain ⟨c, hc, h0, h1, h2, h3⟩ := h
  exact ⟨c, hc, cell_oth h0 (by omega), cell_oth h1 (by omega), cell_oth h2 (by omega), cell_oth h3 (by omega)⟩
set_option maxRecDepth 20000 in
set_option maxHeartbeats 4000000 in
theorem markSs_any (g q n : Nat) (w : World) (hn : n ≤ 1048576) (hT0 : There w g (n * 4)) (hg0 : g < w.heap.size) :
    Calls Try.prog 48 #[.slice (some ⟨g, 0, none⟩) n q, .int .i64 1] w fun e w' => (∃ c : Int, e = .returned (.int .i64 c) ∧ c = 1 + 4 * (n : Int)) ∧ w.grownBy w' (some g) ∧ ∀ i, i < n → SMk w' g i := by
  have hT : Hid (There w g (n * 4) ∧ g < w.heap.size) := ⟨hT0, hg0⟩
  clear hT0 hg0
  go_enter Try.func48, Try.ntmps48
  go_wp2
  go_loopw [1, 5] (fun s1 s5 wr => ∃ j : Nat, j ≤ n ∧ s5 = .int .i64 j ∧ (∃ c0 : Int, s1 = .int .i64 c0 ∧ c0 = 1 + 4 * (j : Int)) ∧ w.grownBy wr (some g) ∧ There wr g (n * 4) ∧ g < wr.heap.size ∧ ∀ i, i < j → SMk wr g i) (fun _ s5 _ => n - (intOf s5).toNat)
  case atStart => exact ⟨0, by omega, rfl, ⟨1, rfl, by simp⟩, gb_refl _ _, hT.out.1, hT.out.2, fun i hi => by omega⟩
  case round =>
    obtain ⟨j, hj, rfl, ⟨c0, rfl, hc0⟩, hG0, hT0, hg0, hM0⟩ := hrel
    have Y : Hid (w.grownBy wr (some g) ∧ There wr g (n * 4) ∧ g < wr.heap.size ∧ ∀ i, i < j → SMk wr g i) := ⟨hG0, hT0, hg0, hM0⟩
    clear hG0 hT0 hT hg0 hM0
    by_cases hjn : j < n
    · have hjn' : (j : Int) < (n : Int) := by omega
      have j0 : (0 : Int) ≤ (j : Int) := by omega
      obtain ⟨c1, hc1⟩ : ∃ x : Int, x = c0 + 1 := ⟨_, rfl⟩
      have e1 : IntKind.i64.wrap (c0 + 1) = c1 := by rw [IntKind.wrap_i64]; omega
      obtain ⟨c2, hc2⟩ : ∃ x : Int, x = c1 + 1 := ⟨_, rfl⟩
      have e2 : IntKind.i64.wrap (c1 + 1) = c2 := by rw [IntKind.wrap_i64]; omega
      obtain ⟨c3, hc3⟩ : ∃ x : Int, x = c2 + 1 := ⟨_, rfl⟩
      have e3 : IntKind.i64.wrap (c2 + 1) = c3 := by rw [IntKind.wrap_i64]; omega
      obtain ⟨c4, hc4⟩ : ∃ x : Int, x = c3 + 1 := ⟨_, rfl⟩
      have e4 : IntKind.i64.wrap (c3 + 1) = c4 := by rw [IntKind.wrap_i64]; omega
      have HC : Hid (c0 = 1 + 4 * (j : Int) ∧ c1 = c0 + 1 ∧ c2 = c1 + 1 ∧ c3 = c2 + 1 ∧ c4 = 1 + 4 * ((j + 1 : Nat) : Int)) := ⟨hc0, hc1, hc2, hc3, by omega⟩
      clear hc0 hc1 hc2 hc3 hc4
      obtain ⟨v0, y0⟩ := Option.isSome_iff_exists.1 (Y.out.2.1 (j * 4) (by omega)).1
      have z0 := (Y.out.2.1 (j * 4) (by omega)).2
      obtain ⟨v1, y1⟩ := Option.isSome_iff_exists.1 (Y.out.2.1 (j * 4 + 1) (by omega)).1
      have z1 := (Y.out.2.1 (j * 4 + 1) (by omega)).2
      obtain ⟨v2, y2⟩ := Option.isSome_iff_exists.1 (Y.out.2.1 (j * 4 + 2) (by omega)).1
      have z2 := (Y.out.2.1 (j * 4 + 2) (by omega)).2
      obtain ⟨v3, y3⟩ := Option.isSome_iff_exists.1 (Y.out.2.1 (j * 4 + 3) (by omega)).1
      have z3 := (Y.out.2.1 (j * 4 + 3) (by omega)).2
      have HM : Hid (∀ W, W.cell? ⟨g, j * 4, none⟩ = some (.int .i64 c0) ∧ W.cell? ⟨g, j * 4 + 1, none⟩ = some (.int .i64 c1) ∧ W.cell? ⟨g, j * 4 + 2, none⟩ = some (.int .i64 c2) ∧ W.cell? ⟨g, j * 4 + 3, none⟩ = some (.bool (c3.tmod 3 == 0)) → SMk W g j) := fun W h => by
        obtain ⟨k0, k1, k2, k3, _⟩ := HC.out
        subst k1 k2 k3
        exact ⟨c0, k0, h.1, h.2.1, h.2.2.1, h.2.2.2⟩
      have H9 : Hid (v0 = v0) := rfl
      go_wp2
      go_roundw
      case rel =>
        refine ⟨j + 1, by omega, by go_num, ⟨c4, by go_num, HC.out.2.2.2.2⟩, gb_trans (gb_trans (gb_trans (gb_trans Y.out.1 (gb_set _ _ _ _)) (gb_set _ _ _ _)) (gb_set _ _ _ _)) (gb_set _ _ _ _), Y.out.2.1.set.set.set.set, by simpa [World.setCell] using Y.out.2.2.1, fun i hi => ?_⟩
        by_cases e : i = j
        · subst e
          exact HM.out _ ⟨cell_oth (cell_oth (cell_oth (cell_same y0) (by omega)) (by omega)) (by omega), cell_oth (cell_oth (cell_same (cell_oth y1 (by omega))) (by omega)) (by omega), cell_oth (cell_same (cell_oth (cell_oth y2 (by omega)) (by omega))) (by omega), cell_same (cell_oth (cell_oth (cell_oth y3 (by omega)) (by omega)) (by omega))⟩
        · exact ((((Y.out.2.2.2 i (by omega)).oth (by omega)).oth (by omega)).oth (by omega)).oth (by omega)
      case measure => simp [intOf]; omega
    · have hjn' : ¬ (j : Int) < (n : Int) := by omega
      have e : j = n := by omega
      subst e
      have HC : Hid (c0 = 1 + 4 * (j : Int)) := hc0
      clear hc0
      go_wp2
      go_ret
      exact ⟨congrArg (fun x => Ending.returned (.int .i64 x)) HC.out, Y.out.1, Y.out.2.2.2⟩
set_option maxRecDepth 20000 in
set_option maxHeartbeats 4000000 in
theorem heldSs_any (g q n : Nat) (w : World) (hn : n ≤ 1048576) (hM0 : ∀ i, i < n → SMk w g i) :
    Calls Try.prog 49 #[.slice (some ⟨g, 0, none⟩) n q, .int .i64 1] w fun e w' => (∃ c : Int, e = .returned (.int .i64 c) ∧ c = 1 + 4 * (n : Int)) ∧ w' = w := by
  have hM : Hid (∀ i, i < n → SMk w g i) := hM0
  clear hM0
  go_enter Try.func49, Try.ntmps49
  go_wp2
  go_loopw [1, 5] (fun s1 s5 wr => ∃ j : Nat, j ≤ n ∧ s5 = .int .i64 j ∧ (∃ c0 : Int, s1 = .int .i64 c0 ∧ c0 = 1 + 4 * (j : Int)) ∧ wr = w) (fun _ s5 _ => n - (intOf s5).toNat)
  case atStart => exact ⟨0, by omega, rfl, ⟨1, rfl, by simp⟩, rfl⟩
  case round =>
    obtain ⟨j, hj, rfl, ⟨c0, rfl, hc0⟩, rfl⟩ := hrel
    by_cases hjn : j < n
    · have hjn' : (j : Int) < (n : Int) := by omega
      have j0 : (0 : Int) ≤ (j : Int) := by omega
      obtain ⟨c1, hc1⟩ : ∃ x : Int, x = c0 + 1 := ⟨_, rfl⟩
      have e1 : IntKind.i64.wrap (c0 + 1) = c1 := by rw [IntKind.wrap_i64]; omega
      obtain ⟨c2, hc2⟩ : ∃ x : Int, x = c1 + 1 := ⟨_, rfl⟩
      have e2 : IntKind.i64.wrap (c1 + 1) = c2 := by rw [IntKind.wrap_i64]; omega
      obtain ⟨c3, hc3⟩ : ∃ x : Int, x = c2 + 1 := ⟨_, rfl⟩
      have e3 : IntKind.i64.wrap (c2 + 1) = c3 := by rw [IntKind.wrap_i64]; omega
      obtain ⟨c4, hc4⟩ : ∃ x : Int, x = c3 + 1 := ⟨_, rfl⟩
      have e4 : IntKind.i64.wrap (c3 + 1) = c4 := by rw [IntKind.wrap_i64]; omega
      have HC : Hid (c4 = 1 + 4 * ((j + 1 : Nat) : Int)) := by show _ = _; omega
      obtain ⟨y0, y1, y2, y3⟩ : wr.cell? ⟨g, j * 4, none⟩ = some (.int .i64 c0) ∧ wr.cell? ⟨g, j * 4 + 1, none⟩ = some (.int .i64 c1) ∧ wr.cell? ⟨g, j * 4 + 2, none⟩ = some (.int .i64 c2) ∧ wr.cell? ⟨g, j * 4 + 3, none⟩ = some (.bool (c3.tmod 3 == 0)) := by
        obtain ⟨c, hc, k0, k1, k2, k3⟩ := hM.out j hjn
        have e0 : c = c0 := by omega
        subst e0
        subst hc1 hc2 hc3
        exact ⟨k0, k1, k2, k3⟩
      clear hc0 hc1 hc2 hc3 hc4
      go_wp2
      go_roundw
      case rel => first | exact ⟨j + 1, by omega, by go_num, ⟨c4, by go_num, HC.out⟩, trivial⟩ | exact ⟨j + 1, by omega, by go_num, ⟨c4, by go_num, HC.out⟩, rfl⟩
      case measure => simp [intOf]; omega
    · have hjn' : ¬ (j : Int) < (n : Int) := by omega
      have e : j = n := by omega
      subst e
      have HC : Hid (c0 = 1 + 4 * (j : Int)) := hc0
      clear hc0
      go_wp2
      go_ret
      exact ⟨congrArg (fun x => Ending.returned (.int .i64 x)) HC.out, rfl⟩
end Go.Proofs.Ythcmkakijdnleaa

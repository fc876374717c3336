/- Events and what is known, as the laws draw them. -/
import Derived.Test.YtgnacdhceiapkaaDoorRows
import Derived.WalkKit
import Derived.WalkSpells
import Derived.WalkLawsBesides
import Derived.Deep.QuietTactic
import Derived.BigQuiet
import Derived.Deep.RegionHeld3
import Derived.Test.YtgnacdhceiapkaaDoorCh
import Derived.LoopN
namespace Go.Proofs.YtgnacdhceiapkaaDoor
open Go.RowKit
set_option linter.unusedSimpArgs false
set_option linter.unusedVariables false
set_option maxHeartbeats 1000000 in
theorem vv_any (g len cap : Nat) (ao : Option Addr) (zs : List Int) (k s : Int) (w : World) (h : SrcAt w g ao len cap k s) (hr : Gen.IsRow .u8 w ao len cap zs) (hn : ∀ x, ao = some x → 0 < cap → x.block ≠ g) (hl : (len : Int) ≤ 1048576) (hk0 : 0 ≤ k) (hk : k ≤ 999999000) :
    Calls Tryd.prog 17 #[.pointer (some ⟨g, 0, none⟩)] w fun e w' => ∃ a b c t : Int, (0 ≤ a ∧ a < 5) ∧ (0 ≤ b ∧ b < 5) ∧ (0 ≤ c ∧ c < 5) ∧ e = .returned (.agg #[.int .i64 a, .int .i64 b, .int .i64 c]) ∧ SrcAt w' g ao len cap (k + 3) t ∧ w.grownBy w' (some g) := by
  have hgs : g < w.heap.size := h.2.2.2.2.2.1
  have hS0 : Hid (SrcAt (w.alloc (.cells #[.int .i64 0, .int .i64 0, .int .i64 0] 27)) g ao len cap k s) := h.alloc
  have hR0 : Hid (Gen.IsRow .u8 (w.alloc (.cells #[.int .i64 0, .int .i64 0, .int .i64 0] 27)) ao len cap zs) := row_alloc hr
  have HN : Hid (∀ x, ao = some x → 0 < cap → x.block ≠ g) := hn
  clear h hr hn
  have hne : w.heap.size ≠ g := by omega
  go_enter Tryd.func17, Tryd.ntmps17
  go_wp2_with fail
  refine (next_any g len cap ao zs k s 5 (by omega) (by omega) _ hS0.out hR0.out HN.out hl hk0 (by omega)).mono ?_
  rintro e w1 ⟨a, t1, ⟨a0, a1⟩, rfl, hS1', hG1'⟩
  have hS1 : Hid (SrcAt w1 g ao len cap (k + 1) t1) := hS1'
  have hR1 : Hid (Gen.IsRow .u8 w1 ao len cap zs) := row_grown hR0.out HN.out hG1'
  have hG1 : Hid (w.grownBy w1 (some g)) := (World.grownBy_alloc w _ _).trans hG1'
  obtain ⟨x0, y0⟩ := SrcAt.next hG1' (b := w.heap.size) (o := 0) (v := .int .i64 0) (by go_simp) (by go_simp) hne
  obtain ⟨x1, y1⟩ := SrcAt.next hG1' (b := w.heap.size) (o := 1) (v := .int .i64 0) (by go_simp) (by go_simp) hne
  obtain ⟨x2, y2⟩ := SrcAt.next hG1' (b := w.heap.size) (o := 2) (v := .int .i64 0) (by go_simp) (by go_simp) hne
  clear hS0 hR0 hS1' hG1'
  go_wp2_with fail
  refine (next_any g len cap ao zs (k + 1) t1 5 (by omega) (by omega) _ hS1.out hR1.out HN.out hl (by omega) (by omega)).mono ?_
  rintro e w2 ⟨b, t2, ⟨b0, b1⟩, rfl, hS2', hG2'⟩
  have hS2 : Hid (SrcAt w2 g ao len cap (k + 1 + 1) t2) := hS2'
  have hR2 : Hid (Gen.IsRow .u8 w2 ao len cap zs) := row_grown hR1.out HN.out hG2'
  have hG2 : Hid (w.grownBy w2 (some g)) := hG1.out.trans hG2'
  obtain ⟨x3, y3⟩ := SrcAt.next hG2' x0 y0 hne
  obtain ⟨x4, y4⟩ := SrcAt.next hG2' x1 y1 hne
  obtain ⟨x5, y5⟩ := SrcAt.next hG2' x2 y2 hne
  clear hS1 hR1 hS2' hG2' hG1 x0 y0 x1 y1 x2 y2
  go_wp2_with fail
  refine (next_any g len cap ao zs (k + 1 + 1) t2 5 (by omega) (by omega) _ hS2.out hR2.out HN.out hl (by omega) (by omega)).mono ?_
  rintro e w3 ⟨c, t3, ⟨d0, d1⟩, rfl, hS3', hG3'⟩
  have hS3 : Hid (SrcAt w3 g ao len cap (k + 1 + 1 + 1) t3) := hS3'
  have hG3 : Hid (w.grownBy w3 (some g)) := hG2.out.trans hG3'
  obtain ⟨x6, y6⟩ := SrcAt.next hG3' x3 y3 hne
  obtain ⟨x7, y7⟩ := SrcAt.next hG3' x4 y4 hne
  obtain ⟨x8, y8⟩ := SrcAt.next hG3' x5 y5 hne
  clear hS2 hR2 hS3' hG3' hG2 x3 y3 x4 y4 x5 y5
  go_wp2_with fail
  refine bodyPost_ret (v := .agg #[.int .i64 a, .int .i64 b, .int .i64 c]) (by simp [results, Tryd.results17, go_sem, x6, x7, x8, y6, y7, y8]) rfl ⟨a, b, c, t3, ⟨a0, a1⟩, ⟨b0, b1⟩, ⟨d0, d1⟩, rfl, ?_, ?_⟩
  · have hq := hS3.out
    rw [show k + 1 + 1 + 1 = k + 3 from by omega] at hq
    obtain ⟨c0, c1, c2, f1, f2, hg, hs⟩ := hq
    exact ⟨by go_simp, by go_simp, by go_simp, by go_simp, by go_simp, by simpa [World.setCell] using hg, hs⟩
  · refine grown_then (grown_then (grown_then hG3.out (grown_set _ _ _ _) ?_) (grown_set _ _ _ _) ?_) (grown_set _ _ _ _) ?_ <;> (intro j e; cases e; exact Or.inl (Nat.le_refl _))
set_option maxHeartbeats 1000000 in
theorem dot_any (g len cap : Nat) (ao : Option Addr) (zs : List Int) (k s : Int) (w : World) (h : SrcAt w g ao len cap k s) (hr : Gen.IsRow .u8 w ao len cap zs) (hn : ∀ x, ao = some x → 0 < cap → x.block ≠ g) (hl : (len : Int) ≤ 1048576) (hk0 : 0 ≤ k) (hk : k ≤ 999999000) :
    Calls Tryd.prog 16 #[.pointer (some ⟨g, 0, none⟩)] w fun e w' => ∃ p q t : Int, (0 ≤ p ∧ p < 3) ∧ (1 ≤ q ∧ q ≤ 5) ∧ e = .returned (.agg #[.int .i64 p, .int .i64 q]) ∧ SrcAt w' g ao len cap (k + 2) t ∧ w.grownBy w' (some g) := by
  have hgs : g < w.heap.size := h.2.2.2.2.2.1
  have hS0 : Hid (SrcAt (w.alloc (.cells #[.int .i64 0, .int .i64 0] 24)) g ao len cap k s) := h.alloc
  have hR0 : Hid (Gen.IsRow .u8 (w.alloc (.cells #[.int .i64 0, .int .i64 0] 24)) ao len cap zs) := row_alloc hr
  have HN : Hid (∀ x, ao = some x → 0 < cap → x.block ≠ g) := hn
  clear h hr hn
  have hne : w.heap.size ≠ g := by omega
  go_enter Tryd.func16, Tryd.ntmps16
  go_wp2_with fail
  refine (next_any g len cap ao zs k s 3 (by omega) (by omega) _ hS0.out hR0.out HN.out hl hk0 (by omega)).mono ?_
  rintro e w1 ⟨a, t1, ⟨a0, a1⟩, rfl, hS1', hG1'⟩
  have hS1 : Hid (SrcAt w1 g ao len cap (k + 1) t1) := hS1'
  have hR1 : Hid (Gen.IsRow .u8 w1 ao len cap zs) := row_grown hR0.out HN.out hG1'
  have hG1 : Hid (w.grownBy w1 (some g)) := (World.grownBy_alloc w _ _).trans hG1'
  obtain ⟨x0, y0⟩ := SrcAt.next hG1' (b := w.heap.size) (o := 0) (v := .int .i64 0) (by go_simp) (by go_simp) hne
  obtain ⟨x1, y1⟩ := SrcAt.next hG1' (b := w.heap.size) (o := 1) (v := .int .i64 0) (by go_simp) (by go_simp) hne
  clear hS0 hR0 hS1' hG1'
  go_wp2_with fail
  refine (next_any g len cap ao zs (k + 1) t1 5 (by omega) (by omega) _ hS1.out hR1.out HN.out hl (by omega) (by omega)).mono ?_
  rintro e w2 ⟨b, t2, ⟨b0, b1⟩, rfl, hS2', hG2'⟩
  have hS2 : Hid (SrcAt w2 g ao len cap (k + 1 + 1) t2) := hS2'
  have hG2 : Hid (w.grownBy w2 (some g)) := hG1.out.trans hG2'
  obtain ⟨x3, y3⟩ := SrcAt.next hG2' x0 y0 hne
  obtain ⟨x4, y4⟩ := SrcAt.next hG2' x1 y1 hne
  clear hS1 hR1 hS2' hG2' hG1 x0 y0 x1 y1
  go_wp2_with fail
  refine bodyPost_ret (v := .agg #[.int .i64 a, .int .i64 (1 + b)]) (by simp [results, Tryd.results16, go_sem, x3, x4, y3, y4]) rfl ⟨a, 1 + b, t2, ⟨a0, a1⟩, by omega, rfl, ?_, ?_⟩
  · have hq := hS2.out
    rw [show k + 1 + 1 = k + 2 from by omega] at hq
    obtain ⟨c0, c1, c2, f1, f2, hg, hs⟩ := hq
    exact ⟨by go_simp, by go_simp, by go_simp, by go_simp, by go_simp, by simpa [World.setCell] using hg, hs⟩
  · refine grown_then (grown_then hG2.out (grown_set _ _ _ _) ?_) (grown_set _ _ _ _) ?_ <;> (intro j e; cases e; exact Or.inl (Nat.le_refl _))

theorem src_start (len cap : Nat) (ao : Option Addr) (w : World) : SrcAt (w.alloc (.cells #[.slice ao len cap, .int .i64 0, .int .i64 ((len : Int) % 1000)] 69)) w.heap.size ao len cap 0 ((len : Int) % 1000) :=
  ⟨by go_simp, by go_simp, by go_simp, by go_simp, by go_simp, by simp, by omega, by omega⟩


set_option maxHeartbeats 1000000 in
theorem vvDrawn_any (len cap : Nat) (ao : Option Addr) (zs : List Int) (w : World) (hr : Gen.IsRow .u8 w ao len cap zs) (hl : (len : Int) ≤ 1048576) :
    Calls Tryd.prog 5 #[.slice ao len cap] w fun e w' => ∃ a b c : Int, ((0 ≤ a ∧ a < 5) ∧ (0 ≤ b ∧ b < 5) ∧ (0 ≤ c ∧ c < 5)) ∧ e = .returned (.agg #[.int .i64 a, .int .i64 b, .int .i64 c]) ∧ Below w.heap.size w w' := by
  have HR : Hid (Gen.IsRow .u8 ((w.alloc (.cells #[.int .i64 0, .int .i64 0, .int .i64 0] 27)).alloc (.cells #[.slice ao len cap, .int .i64 0, .int .i64 ((len : Int) % 1000)] 69)) ao len cap zs) := row_alloc (row_alloc hr)
  have HS : Hid (SrcAt ((w.alloc (.cells #[.int .i64 0, .int .i64 0, .int .i64 0] 27)).alloc (.cells #[.slice ao len cap, .int .i64 0, .int .i64 ((len : Int) % 1000)] 69)) (w.heap.size + 1) ao len cap 0 ((len : Int) % 1000)) := by
    have := src_start len cap ao (w.alloc (.cells #[.int .i64 0, .int .i64 0, .int .i64 0] 27))
    rwa [World.size_alloc] at this
  have HN : Hid (∀ x, ao = some x → 0 < cap → x.block ≠ w.heap.size + 1) := fun x hx hc => by
    have := row_lt hr x hx hc
    omega
  clear hr
  have hne : w.heap.size ≠ w.heap.size + 1 := by omega
  go_enter Tryd.func5, Tryd.ntmps5
  go_wp2_with fail
  refine (source_any len cap ao _ hl).mono ?_
  rintro e w1 ⟨rfl, rfl⟩
  go_wp2_with fail
  refine (vv_any (w.heap.size + 1) len cap ao zs 0 _ _ HS.out HR.out HN.out hl (by omega) (by omega)).mono ?_
  rintro e w2 ⟨a, b, c, t, ⟨a0, a1⟩, ⟨b0, b1⟩, ⟨c0, c1⟩, rfl, _, hG'⟩
  obtain ⟨x0, y0⟩ := SrcAt.next hG' (b := w.heap.size) (o := 0) (v := .int .i64 0) (by go_simp) (by go_simp) hne
  obtain ⟨x1, y1⟩ := SrcAt.next hG' (b := w.heap.size) (o := 1) (v := .int .i64 0) (by go_simp) (by go_simp) hne
  obtain ⟨x2, y2⟩ := SrcAt.next hG' (b := w.heap.size) (o := 2) (v := .int .i64 0) (by go_simp) (by go_simp) hne
  have hB : Below w.heap.size w w2 := (((Below.refl _ _).alloc (Nat.le_refl _) _).alloc (by simp) _).trans (grown_below hG' (by simp; omega) (by omega))
  clear HR HS HN hG'
  go_wp2_with fail
  refine bodyPost_ret (v := .agg #[.int .i64 a, .int .i64 b, .int .i64 c]) (by simp [results, Tryd.results5, go_sem, x0, y0, x1, y1, x2, y2]) rfl ⟨a, b, c, ⟨⟨a0, a1⟩, ⟨b0, b1⟩, c0, c1⟩, rfl, ?_⟩
  exact (((hB.setCell (Nat.le_refl _) _).setCell (Nat.le_refl _) _).setCell (Nat.le_refl _) _)


set_option maxHeartbeats 1000000 in
theorem dotDrawn_any (len cap : Nat) (ao : Option Addr) (zs : List Int) (w : World) (hr : Gen.IsRow .u8 w ao len cap zs) (hl : (len : Int) ≤ 1048576) :
    Calls Tryd.prog 4 #[.slice ao len cap] w fun e w' => ∃ p q : Int, ((0 ≤ p ∧ p < 3) ∧ (1 ≤ q ∧ q ≤ 5)) ∧ e = .returned (.agg #[.int .i64 p, .int .i64 q]) ∧ Below w.heap.size w w' := by
  have HR : Hid (Gen.IsRow .u8 ((w.alloc (.cells #[.int .i64 0, .int .i64 0] 24)).alloc (.cells #[.slice ao len cap, .int .i64 0, .int .i64 ((len : Int) % 1000)] 69)) ao len cap zs) := row_alloc (row_alloc hr)
  have HS : Hid (SrcAt ((w.alloc (.cells #[.int .i64 0, .int .i64 0] 24)).alloc (.cells #[.slice ao len cap, .int .i64 0, .int .i64 ((len : Int) % 1000)] 69)) (w.heap.size + 1) ao len cap 0 ((len : Int) % 1000)) := by
    have := src_start len cap ao (w.alloc (.cells #[.int .i64 0, .int .i64 0] 24))
    rwa [World.size_alloc] at this
  have HN : Hid (∀ x, ao = some x → 0 < cap → x.block ≠ w.heap.size + 1) := fun x hx hc => by
    have := row_lt hr x hx hc
    omega
  clear hr
  have hne : w.heap.size ≠ w.heap.size + 1 := by omega
  go_enter Tryd.func4, Tryd.ntmps4
  go_wp2_with fail
  refine (source_any len cap ao _ hl).mono ?_
  rintro e w1 ⟨rfl, rfl⟩
  go_wp2_with fail
  refine (dot_any (w.heap.size + 1) len cap ao zs 0 _ _ HS.out HR.out HN.out hl (by omega) (by omega)).mono ?_
  rintro e w2 ⟨p, q, t, ⟨p0, p1⟩, ⟨q0, q1⟩, rfl, _, hG'⟩
  obtain ⟨x0, y0⟩ := SrcAt.next hG' (b := w.heap.size) (o := 0) (v := .int .i64 0) (by go_simp) (by go_simp) hne
  obtain ⟨x1, y1⟩ := SrcAt.next hG' (b := w.heap.size) (o := 1) (v := .int .i64 0) (by go_simp) (by go_simp) hne
  have hB : Below w.heap.size w w2 := (((Below.refl _ _).alloc (Nat.le_refl _) _).alloc (by simp) _).trans (grown_below hG' (by simp; omega) (by omega))
  clear HR HS HN hG'
  go_wp2_with fail
  refine bodyPost_ret (v := .agg #[.int .i64 p, .int .i64 q]) (by simp [results, Tryd.results4, go_sem, x0, y0, x1, y1]) rfl ⟨p, q, ⟨⟨p0, p1⟩, ⟨q0, q1⟩⟩, rfl, ?_⟩
  exact ((hB.setCell (Nat.le_refl _) _).setCell (Nat.le_refl _) _)

end Go.Proofs.YtgnacdhceiapkaaDoor

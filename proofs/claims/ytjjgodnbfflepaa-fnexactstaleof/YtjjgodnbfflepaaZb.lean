/- Siblings and lists of them, as the laws hand them over. -/
import Derived.Test.YtjjgodnbfflepaaRows
import Derived.WalkKit
import Derived.WalkSpells
import Derived.WalkLawsBesides
import Derived.Deep.QuietTactic
import Derived.BigQuiet
import Derived.Deep.RegionHeld3
import Derived.LoopN
import Derived.OwnWalk
import Derived.Laws.StructEq
import Derived.Test.YtjjgodnbfflepaaSd
import Derived.Test.YtjjgodnbfflepaaLk
namespace Go.Proofs.Ytjjgodnbfflepaa
open Go.RowKit
set_option linter.unusedSimpArgs false
set_option linter.unusedVariables false

set_option maxHeartbeats 400000 in
theorem toDot_any (x y : Int) (w : World) :
    Calls Try.prog 70 #[.agg #[.int .i64 x, .int .i64 y]] w fun e w' => e = .returned (.agg #[.int .i64 x, .int .i64 y]) ∧ Below w.heap.size w w' := by
  go_enter Try.func70, Try.ntmps70
  go_wp2
  refine bodyPost_ret (v := .agg #[.int .i64 x, .int .i64 y]) (by simp [results, Try.results70, go_sem]) rfl ⟨rfl, ?_⟩
  repeat (first | exact Below.refl _ _ | refine Below.drew ?_ | refine below_drewN ?_ _ | refine Below.alloc ?_ (by first | (simp; done) | (simp; omega)) _ | refine Below.setCell ?_ (by first | (simp; done) | (simp; omega)) _)

set_option maxHeartbeats 1000000 in
theorem toSib_any (x : Sib) (w : World) :
    Calls Try.prog 55 #[.agg #[.int .i64 x.p, .int .i64 x.n, .int .i64 x.v, .bool x.d]] w fun e w' => e = .returned (.agg #[.int .i64 x.p, .int .i64 x.n, .int .i64 x.v, .bool x.d]) ∧ Below w.heap.size w w' := by
  go_enter Try.func55, Try.ntmps55
  go_wp2_with fail
  refine (toDot_any _ _ _).mono ?_
  rintro e w1 ⟨rfl, hb⟩
  obtain ⟨hc, hf⟩ := bcell hb
  have hz := hb.size
  simp at hz
  go_wp2_with fail
  refine bodyPost_ret (v := .agg #[.int .i64 x.p, .int .i64 x.n, .int .i64 x.v, .bool x.d]) (by simp [results, Try.results55, go_sem, hc]) rfl ⟨rfl, ?_⟩
  have hB : Below w.heap.size w w1 := ((((Below.refl _ _).alloc (Nat.le_refl _) _).alloc (by simp) _).alloc (by simp; omega) _).trans (hb.mono (by simp; omega))
  exact hB.setCell (by simp; omega) _ |>.setCell (by simp; omega) _ |>.setCell (by simp; omega) _ |>.setCell (by simp; omega) _ |>.setCell (by simp) _ |>.setCell (by simp) _ |>.setCell (by simp) _ |>.setCell (by simp) _

set_option maxHeartbeats 1000000 in
theorem toSibs_any (cap : Nat) (ao : Option Addr) (l : List Sib) (w : World) (hm : (l.length : Int) ≤ 1048576) (hr0 : SibRow w ao l) :
    Calls Try.prog 37 #[.slice ao l.length cap] w fun e w' => e = .returned (.slice (some ⟨w.heap.size, 0, none⟩) l.length l.length) ∧ Below w.heap.size w w' ∧ There w' w.heap.size (l.length * 4) ∧ (∀ i (h : i < l.length), SibAt w' w.heap.size (i * 4) l[i]) ∧ w.heap.size < w'.heap.size := by
  have hr : Hid (SibRow w ao l) := hr0
  clear hr0
  obtain ⟨w0, hrun, hown, hgrow⟩ := run_make_full (P := Try.prog) w w.heap.size 24 68 ((Try.prog.info? 68).getD default) (.agg #[.int .i64 0, .int .i64 0, .int .i64 0, .bool false]) 4 Try.underlying24 (by kernel_rfl) (by kernel_rfl) (by kernel_rfl) .i64 .i64 l.length
    (by have : ((Try.prog.info? 68).getD default).bytes = 32 := by kernel_rfl
        rw [this]; omega) (by unfold maxLen; omega) (Nat.le_refl _)
  have hT : Hid (There w0 w.heap.size (l.length * 4)) := made_there hown
  have hB : Hid (Below w.heap.size w w0) := (Below.refl _ _).grown hgrow (Nat.le_refl _) (fun k e => by cases e)
  have hlt : Hid (w.heap.size < w0.heap.size) := by
    obtain ⟨_, h2⟩ := hown
    rcases h2 with ⟨h2, _⟩ | ⟨g', cp, cur, h2, h3, h4, _⟩
    · cases h2
    · cases h2
      rcases Nat.lt_or_ge w.heap.size w0.heap.size with h' | h'
      · exact h'
      · rw [Array.getElem?_eq_none h'] at h4; cases h4
  clear hown hgrow
  go_enter Try.func37, Try.ntmps37
  go_wp2
  clear hrun
  go_loopw [4] (fun s4 wr => ∃ k : Nat, k ≤ l.length ∧ s4 = .int .i64 k ∧ Below w.heap.size w wr ∧ There wr w.heap.size (l.length * 4) ∧ (∀ i (h : i < l.length), i < k → SibAt wr w.heap.size (i * 4) l[i]) ∧ w.heap.size < wr.heap.size) (fun s4 _ => l.length - (intOf s4).toNat)
  case atStart => exact ⟨0, by omega, rfl, hB.out, hT.out, fun i h h' => by omega, hlt.out⟩
  case round =>
    clear hT hB hlt
    obtain ⟨k, hk, rfl, hB0, hT0, hS0, hlt0⟩ := hrel
    have hB : Hid (Below w.heap.size w wr) := hB0
    have hT : Hid (There wr w.heap.size (l.length * 4)) := hT0
    have hS : Hid (∀ i (h : i < l.length), i < k → SibAt wr w.heap.size (i * 4) l[i]) := hS0
    clear hB0 hT0 hS0
    by_cases hkl : k < l.length
    · have hkl' : (k : Int) < (l.length : Int) := by omega
      rcases hr.out with h' | ⟨b, off, rfl, h2⟩
      · rw [h'] at hkl; simp at hkl
      have hx := (h2 k (by omega)).next hB.out (cell_lt (x := ⟨b, off + k * 4, none⟩) (h2 k (by omega)).1)
      obtain ⟨x0, x1, x2, x3⟩ := hx
      go_wp2_with fail
      refine (toSib_any l[k] wr).mono ?_
      rintro e w1 ⟨rfl, hb⟩
      have hT1 : Hid (There w1 w.heap.size (l.length * 4)) := hT.out.next hb hlt0
      have hB1 : Hid (Below w.heap.size w w1) := hB.out.trans (hb.mono (by omega))
      have hS1 : Hid (∀ i (h : i < l.length), i < k → SibAt w1 w.heap.size (i * 4) l[i]) := fun i h h' => (hS.out i h h').next hb hlt0
      have hlt1 : Hid (w.heap.size < w1.heap.size) := Nat.lt_of_lt_of_le hlt0 hb.size
      obtain ⟨v0, y0⟩ := Option.isSome_iff_exists.1 (hT1.out (k * 4) (by omega)).1
      obtain ⟨v1, y1⟩ := Option.isSome_iff_exists.1 (hT1.out (k * 4 + 1) (by omega)).1
      obtain ⟨v2, y2⟩ := Option.isSome_iff_exists.1 (hT1.out (k * 4 + 2) (by omega)).1
      obtain ⟨v3, y3⟩ := Option.isSome_iff_exists.1 (hT1.out (k * 4 + 3) (by omega)).1
      have z0 := (hT1.out (k * 4) (by omega)).2
      have z1 := (hT1.out (k * 4 + 1) (by omega)).2
      have z2 := (hT1.out (k * 4 + 2) (by omega)).2
      have z3 := (hT1.out (k * 4 + 3) (by omega)).2
      clear hb hT hB hS x0 x1 x2 x3 hlt0
      go_wp2_with fail
      go_roundw
      case rel =>
        refine ⟨k + 1, by omega, by go_num, hB1.out.setCell (Nat.le_refl _) _ |>.setCell (Nat.le_refl _) _ |>.setCell (Nat.le_refl _) _ |>.setCell (Nat.le_refl _) _, hT1.out.set.set.set.set, fun i h h' => ?_, by simpa [World.setCell] using hlt1.out⟩
        by_cases e : i = k
        · subst e; exact SibAt.put hT1.out (by omega)
        · exact (hS1.out i h (by omega)).kept (Or.inr (by omega))
      case measure => simp [intOf]; omega
    · have hkl' : ¬ (k : Int) < (l.length : Int) := by omega
      go_wp2
      go_ret
      refine ⟨rfl, hB.out, hT.out, fun i h => hS.out i h (by omega), hlt0⟩

set_option maxHeartbeats 1000000 in
theorem toVv_any (a b c : Int) (w : World) :
    Calls Try.prog 38 #[.agg #[.int .i64 a, .int .i64 b, .int .i64 c]] w fun e w' => e = .returned (.agg #[.int .i64 a, .int .i64 b, .int .i64 c]) ∧ Below w.heap.size w w' := by
  go_enter Try.func38, Try.ntmps38
  go_wp2
  refine wp_loop_rounds 4 ?_
  repeat (rw [rounds_succ]; go_wp2)
  refine bodyPost_ret (v := .agg #[.int .i64 a, .int .i64 b, .int .i64 c]) (by simp [results, Try.results38, go_sem]) rfl ⟨rfl, ?_⟩
  repeat (first | exact Below.refl _ _ | refine Below.drew ?_ | refine below_drewN ?_ _ | refine Below.alloc ?_ (by first | (simp; done) | (simp; omega)) _ | refine Below.setCell ?_ (by first | (simp; done) | (simp; omega)) _)

set_option maxHeartbeats 1000000 in
theorem toObj_any (cap : Nat) (ao : Option Addr) (l : List Sib) (a b c : Int) (w : World) (hm : (l.length : Int) ≤ 1048576) (hr0 : SibRow w ao l) :
    Calls Try.prog 22 #[.agg #[.slice ao l.length cap, .int .i64 a, .int .i64 b, .int .i64 c]] w fun e w' => ∃ g, e = .returned (.agg #[.slice (some ⟨g, 0, none⟩) l.length l.length, .int .i64 a, .int .i64 b, .int .i64 c]) ∧ Below w.heap.size w w' ∧ w.heap.size ≤ g ∧ g < w'.heap.size ∧ There w' g (l.length * 4) ∧ (∀ i (h : i < l.length), SibAt w' g (i * 4) l[i]) := by
  have hr : Hid (SibRow w ao l) := hr0
  clear hr0
  go_enter Try.func22, Try.ntmps22
  go_wp2_with fail
  refine (toSibs_any cap ao l _ hm (hr.out.next ((((Below.refl _ _).alloc (Nat.le_refl _) _).alloc (by simp) _).alloc (by simp; omega) _))).mono ?_
  rintro e w1 ⟨rfl, hb, hT0, hS0, hlt0⟩
  simp only [World.size_alloc] at hT0 hS0 hlt0
  obtain ⟨hc, hf⟩ := bcell hb
  have hB : Hid (Below w.heap.size w w1) := ((((Below.refl _ _).alloc (Nat.le_refl _) _).alloc (by simp) _).alloc (by simp; omega) _).trans (hb.mono (by simp; omega))
  have hT : Hid (There w1 (w.heap.size + 1 + 1 + 1) (l.length * 4)) := hT0
  have hS : Hid (∀ i (h : i < l.length), SibAt w1 (w.heap.size + 1 + 1 + 1) (i * 4) l[i]) := hS0
  have q0 : w.heap.size < w1.heap.size := by omega
  have q1 : w.heap.size + 1 < w1.heap.size := by omega
  have q2 : w.heap.size + 1 + 1 < w1.heap.size := by omega
  have q3 : Hid (w.heap.size + 1 + 1 + 1 < w1.heap.size) := hlt0
  have A0 := cell_next hb (b := w.heap.size) (o := 1) (v := .int .i64 a) (by go_simp) (by first | (simp; done) | (simp; omega))
  have A1 := cell_next hb (b := w.heap.size) (o := 2) (v := .int .i64 b) (by go_simp) (by first | (simp; done) | (simp; omega))
  have A2 := cell_next hb (b := w.heap.size) (o := 3) (v := .int .i64 c) (by go_simp) (by first | (simp; done) | (simp; omega))
  have P0 := cell_next hb (b := w.heap.size + 1 + 1) (o := 0) (v := .slice none 0 0) (by go_simp) (by first | (simp; done) | (simp; omega))
  have P1 := cell_next hb (b := w.heap.size + 1 + 1) (o := 1) (v := .int .i64 0) (by go_simp) (by first | (simp; done) | (simp; omega))
  have P2 := cell_next hb (b := w.heap.size + 1 + 1) (o := 2) (v := .int .i64 0) (by go_simp) (by first | (simp; done) | (simp; omega))
  have P3 := cell_next hb (b := w.heap.size + 1 + 1) (o := 3) (v := .int .i64 0) (by go_simp) (by first | (simp; done) | (simp; omega))
  have O0 := cell_next hb (b := w.heap.size + 1) (o := 0) (v := .slice none 0 0) (by go_simp) (by first | (simp; done) | (simp; omega))
  have O1 := cell_next hb (b := w.heap.size + 1) (o := 1) (v := .int .i64 0) (by go_simp) (by first | (simp; done) | (simp; omega))
  have O2 := cell_next hb (b := w.heap.size + 1) (o := 2) (v := .int .i64 0) (by go_simp) (by first | (simp; done) | (simp; omega))
  have O3 := cell_next hb (b := w.heap.size + 1) (o := 3) (v := .int .i64 0) (by go_simp) (by first | (simp; done) | (simp; omega))
  have FP0 := frozen_next hb (b := w.heap.size + 1 + 1) (o := 0) (by go_simp) (by first | (simp; done) | (simp; omega))
  have FP1 := frozen_next hb (b := w.heap.size + 1 + 1) (o := 1) (by go_simp) (by first | (simp; done) | (simp; omega))
  have FP2 := frozen_next hb (b := w.heap.size + 1 + 1) (o := 2) (by go_simp) (by first | (simp; done) | (simp; omega))
  have FP3 := frozen_next hb (b := w.heap.size + 1 + 1) (o := 3) (by go_simp) (by first | (simp; done) | (simp; omega))
  have FO0 := frozen_next hb (b := w.heap.size + 1) (o := 0) (by go_simp) (by first | (simp; done) | (simp; omega))
  have FO1 := frozen_next hb (b := w.heap.size + 1) (o := 1) (by go_simp) (by first | (simp; done) | (simp; omega))
  have FO2 := frozen_next hb (b := w.heap.size + 1) (o := 2) (by go_simp) (by first | (simp; done) | (simp; omega))
  have FO3 := frozen_next hb (b := w.heap.size + 1) (o := 3) (by go_simp) (by first | (simp; done) | (simp; omega))
  clear hb hc hf hT0 hS0 hlt0
  go_wp2_with fail
  refine (toVv_any a b c _).mono ?_
  rintro e w2 ⟨rfl, hb⟩
  have hsz : (w1.setCell ⟨w.heap.size + 1 + 1, 0, none⟩ (.slice (some ⟨w.heap.size + 1 + 1 + 1, 0, none⟩) l.length l.length)).heap.size = w1.heap.size := by simp [World.setCell]
  have hB2 : Hid (Below w.heap.size w w2) := (hB.out.setCell (by simp; omega) _).trans (hb.mono (by rw [hsz]; omega))
  have hT2 : Hid (There w2 (w.heap.size + 1 + 1 + 1) (l.length * 4)) := hT.out.set.next hb (by rw [hsz]; exact q3.out)
  have hS2 : Hid (∀ i (h : i < l.length), SibAt w2 (w.heap.size + 1 + 1 + 1) (i * 4) l[i]) := fun i h => (SibAt.blk (hS.out i h) (by omega)).next hb (by rw [hsz]; exact q3.out)
  have q4 : Hid (w.heap.size + 1 + 1 + 1 < w2.heap.size) := Nat.lt_of_lt_of_le q3.out (by have := hb.size; rwa [hsz] at this)
  have P0' := cell_next hb (b := w.heap.size + 1 + 1) (o := 0) (v := (.slice (some ⟨w.heap.size + 1 + 1 + 1, 0, none⟩) l.length l.length)) (by go_simp) (by rw [hsz]; omega)
  have FP0' := frozen_next hb (b := w.heap.size + 1 + 1) (o := 0) (by go_simp) (by rw [hsz]; omega)
  have P1' := cell_next hb (b := w.heap.size + 1 + 1) (o := 1) (v := (.int .i64 0)) (by go_simp) (by rw [hsz]; omega)
  have FP1' := frozen_next hb (b := w.heap.size + 1 + 1) (o := 1) (by go_simp) (by rw [hsz]; omega)
  have P2' := cell_next hb (b := w.heap.size + 1 + 1) (o := 2) (v := (.int .i64 0)) (by go_simp) (by rw [hsz]; omega)
  have FP2' := frozen_next hb (b := w.heap.size + 1 + 1) (o := 2) (by go_simp) (by rw [hsz]; omega)
  have P3' := cell_next hb (b := w.heap.size + 1 + 1) (o := 3) (v := (.int .i64 0)) (by go_simp) (by rw [hsz]; omega)
  have FP3' := frozen_next hb (b := w.heap.size + 1 + 1) (o := 3) (by go_simp) (by rw [hsz]; omega)
  have O0' := cell_next hb (b := w.heap.size + 1) (o := 0) (v := (.slice none 0 0)) (by go_simp) (by rw [hsz]; omega)
  have FO0' := frozen_next hb (b := w.heap.size + 1) (o := 0) (by go_simp) (by rw [hsz]; omega)
  have O1' := cell_next hb (b := w.heap.size + 1) (o := 1) (v := (.int .i64 0)) (by go_simp) (by rw [hsz]; omega)
  have FO1' := frozen_next hb (b := w.heap.size + 1) (o := 1) (by go_simp) (by rw [hsz]; omega)
  have O2' := cell_next hb (b := w.heap.size + 1) (o := 2) (v := (.int .i64 0)) (by go_simp) (by rw [hsz]; omega)
  have FO2' := frozen_next hb (b := w.heap.size + 1) (o := 2) (by go_simp) (by rw [hsz]; omega)
  have O3' := cell_next hb (b := w.heap.size + 1) (o := 3) (v := (.int .i64 0)) (by go_simp) (by rw [hsz]; omega)
  have FO3' := frozen_next hb (b := w.heap.size + 1) (o := 3) (by go_simp) (by rw [hsz]; omega)
  clear hb hsz hB hT hS q3 q0 q1 q2 A0 A1 A2 P0 O0 FP0 FO0 P1 O1 FP1 FO1 P2 O2 FP2 FO2 P3 O3 FP3 FO3
  go_wp2_with fail
  refine bodyPost_ret (v := .agg #[.slice (some ⟨w.heap.size + 1 + 1 + 1, 0, none⟩) l.length l.length, .int .i64 a, .int .i64 b, .int .i64 c]) (by simp [results, Try.results22, go_sem, P0', O0', FP0', FO0', P1', O1', FP1', FO1', P2', O2', FP2', FO2', P3', O3', FP3', FO3']) rfl ⟨w.heap.size + 1 + 1 + 1, rfl, ?_, by omega, ?_, ?_, ?_⟩
  · exact hB2.out.setCell (by simp; omega) _ |>.setCell (by simp; omega) _ |>.setCell (by simp; omega) _ |>.setCell (by simp) _ |>.setCell (by simp) _ |>.setCell (by simp) _ |>.setCell (by simp) _
  · simpa [World.setCell] using q4.out
  · exact hT2.out.set.set.set.set.set.set.set
  · intro i h
    exact ((((((((hS2.out i h).blk (by omega)).blk (by omega)).blk (by omega)).blk (by omega)).blk (by omega)).blk (by omega)).blk (by omega))

set_option maxHeartbeats 400000 in
theorem eqDot_same (x y : Int) (w : World) :
    Calls Try.prog 62 #[.agg #[.int .i64 x, .int .i64 y], .agg #[.int .i64 x, .int .i64 y]] w fun e w' => e = .returned (.bool true) ∧ Below w.heap.size w w' := by
  go_enter Try.func62, Try.ntmps62
  go_wp2
  go_ret
  refine ⟨rfl, ?_⟩
  repeat (first | exact Below.refl _ _ | refine Below.drew ?_ | refine below_drewN ?_ _ | refine Below.alloc ?_ (by first | (simp; done) | (simp; omega)) _ | refine Below.setCell ?_ (by first | (simp; done) | (simp; omega)) _)

set_option maxHeartbeats 1000000 in
theorem eqSib_same (x : Sib) (w : World) :
    Calls Try.prog 45 #[.agg #[.int .i64 x.p, .int .i64 x.n, .int .i64 x.v, .bool x.d], .agg #[.int .i64 x.p, .int .i64 x.n, .int .i64 x.v, .bool x.d]] w fun e w' => e = .returned (.bool true) ∧ Below w.heap.size w w' := by
  go_enter Try.func45, Try.ntmps45
  go_wp2_with fail
  refine (eqDot_same _ _ _).mono ?_
  rintro e w1 ⟨rfl, hb⟩
  obtain ⟨hc, hf⟩ := bcell hb
  have hz := hb.size
  simp at hz
  have hB : Hid (Below w.heap.size w w1) := (((Below.refl _ _).alloc (Nat.le_refl _) _).alloc (by simp) _).trans (hb.mono (by simp; omega))
  clear hb
  go_wp2
  go_ret
  exact ⟨rfl, hB.out⟩

set_option maxHeartbeats 1000000 in
theorem eqSibs_same (cap cp : Nat) (ao bo : Option Addr) (l : List Sib) (w : World) (hm : (l.length : Int) ≤ 1048576) (hr0 : SibRow w ao l) (hs0 : SibRow w bo l) :
    Calls Try.prog 27 #[.slice ao l.length cap, .slice bo l.length cp] w fun e w' => e = .returned (.bool true) ∧ Below w.heap.size w w' := by
  have hr : Hid (SibRow w ao l) := hr0
  have hs : Hid (SibRow w bo l) := hs0
  clear hr0 hs0
  go_enter Try.func27, Try.ntmps27
  go_wp2
  go_loopw [5] (fun s5 wr => ∃ k : Nat, k ≤ l.length ∧ s5 = .int .i64 k ∧ Below w.heap.size w wr) (fun s5 _ => l.length - (intOf s5).toNat)
  case atStart => exact ⟨0, by omega, rfl, Below.refl _ _⟩
  case round =>
    obtain ⟨k, hk, rfl, hB0⟩ := hrel
    have hB : Hid (Below w.heap.size w wr) := hB0
    clear hB0
    by_cases hkl : k < l.length
    · have hkl' : (k : Int) < (l.length : Int) := by omega
      rcases hr.out with h' | ⟨b, off, rfl, h2⟩
      · rw [h'] at hkl; simp at hkl
      rcases hs.out with h' | ⟨c, oft, rfl, h3⟩
      · rw [h'] at hkl; simp at hkl
      obtain ⟨x0, x1, x2, x3⟩ := (h2 k hkl).next hB.out (cell_lt (x := ⟨b, off + k * 4, none⟩) (h2 k hkl).1)
      obtain ⟨y0, y1, y2, y3⟩ := (h3 k hkl).next hB.out (cell_lt (x := ⟨c, oft + k * 4, none⟩) (h3 k hkl).1)
      have k0 : (0 : Int) ≤ (k : Int) := by omega
      clear h2 h3
      go_wp2_with fail
      go_region_held3 (fun w' => w'.cell? ⟨b, off + k * 4, none⟩ = some (.int .i64 l[k].p) ∧ w'.cell? ⟨b, off + k * 4 + 1, none⟩ = some (.int .i64 l[k].n) ∧ w'.cell? ⟨b, off + k * 4 + 2, none⟩ = some (.int .i64 l[k].v) ∧ w'.cell? ⟨b, off + k * 4 + 3, none⟩ = some (.bool l[k].d) ∧ w'.cell? ⟨c, oft + k * 4, none⟩ = some (.int .i64 l[k].p) ∧ w'.cell? ⟨c, oft + k * 4 + 1, none⟩ = some (.int .i64 l[k].n) ∧ w'.cell? ⟨c, oft + k * 4 + 2, none⟩ = some (.int .i64 l[k].v) ∧ w'.cell? ⟨c, oft + k * 4 + 3, none⟩ = some (.bool l[k].d)) (first | (with_reducible assumption) | exact ⟨x0, x1, x2, x3, y0, y1, y2, y3⟩) (first | (go_at_call 45; refine (eqSib_same l[k] _).mono ?_; rintro e w1 ⟨rfl, hb⟩; have hK := sib_keep8 hb x0 x1 x2 x3 y0 y1 y2 y3))
      have hB1 : Hid (Below w.heap.size w w1) := hB.out.drew.trans (hb.mono hB.out.size)
      clear hb hK
      go_wp2
      go_roundw
      case rel => exact ⟨k + 1, by omega, by go_num, hB1.out⟩
      case measure => simp [intOf]; omega
    · have hkl' : ¬ (k : Int) < (l.length : Int) := by omega
      go_wp2
      go_ret
      exact ⟨rfl, hB.out⟩

open Go.RowKit
set_option linter.unusedSimpArgs false
set_option linter.unusedVariables false

set_option maxHeartbeats 1000000 in
theorem szObj_any (cap : Nat) (ao : Option Addr) (l : List Sib) (a b c n : Int) (w : World) (h0 : 0 ≤ n) (hn : n ≤ 1048576) (hm : (l.length : Int) ≤ 9223372036854775807) :
    Calls Try.prog 19 #[.agg #[.slice ao l.length cap, .int .i64 a, .int .i64 b, .int .i64 c], .int .i64 n] w fun e w' => e = .returned (.int .i64 (if (l.length : Int) ≤ n then n - l.length else -1)) ∧ Below w.heap.size w w' := by
  by_cases hle : (l.length : Int) ≤ n
  · have hd : ¬ n - (l.length : Int) < 0 := by omega
    go_enter Try.func19, Try.ntmps19
    go_wp2
    go_ret
    refine ⟨rfl, ?_⟩
    repeat (first | exact Below.refl _ _ | refine Below.drew ?_ | refine below_drewN ?_ _ | refine Below.alloc ?_ (by first | (simp; done) | (simp; omega)) _ | refine Below.setCell ?_ (by first | (simp; done) | (simp; omega)) _)
  · have hd : n - (l.length : Int) < 0 := by omega
    go_enter Try.func19, Try.ntmps19
    go_wp2
    go_ret
    refine ⟨rfl, ?_⟩
    repeat (first | exact Below.refl _ _ | refine Below.drew ?_ | refine below_drewN ?_ _ | refine Below.alloc ?_ (by first | (simp; done) | (simp; omega)) _ | refine Below.setCell ?_ (by first | (simp; done) | (simp; omega)) _)

set_option maxHeartbeats 1000000 in
theorem eqVv_same (a b c : Int) (w : World) :
    Calls Try.prog 28 #[.agg #[.int .i64 a, .int .i64 b, .int .i64 c], .agg #[.int .i64 a, .int .i64 b, .int .i64 c]] w fun e w' => e = .returned (.bool true) ∧ Below w.heap.size w w' := by
  go_enter Try.func28, Try.ntmps28
  go_wp2
  refine wp_loop_rounds 4 ?_
  repeat (rw [rounds_succ]; go_wp2; (try (go_quiet (fail); go_wp2)))
  go_ret
  refine ⟨rfl, ?_⟩
  repeat (first | exact Below.refl _ _ | refine Below.drew ?_ | refine below_drewN ?_ _ | refine Below.alloc ?_ (by first | (simp; done) | (simp; omega)) _ | refine Below.setCell ?_ (by first | (simp; done) | (simp; omega)) _)

set_option maxHeartbeats 1000000 in
theorem eqObj_same (cap cp : Nat) (ao bo : Option Addr) (l : List Sib) (a b c : Int) (w : World) (hm : (l.length : Int) ≤ 1048576) (hr0 : SibRow w ao l) (hs0 : SibRow w bo l) :
    Calls Try.prog 9 #[.agg #[.slice ao l.length cap, .int .i64 a, .int .i64 b, .int .i64 c], .agg #[.slice bo l.length cp, .int .i64 a, .int .i64 b, .int .i64 c]] w fun e w' => e = .returned (.bool true) ∧ Below w.heap.size w w' := by
  have hb0 : Hid (∀ o1 o2, Below w.heap.size w ((w.alloc o1).alloc o2)) := fun o1 o2 => ((Below.refl _ _).alloc (Nat.le_refl _) _).alloc (by simp) _
  have hr : Hid (SibRow w ao l) := hr0
  have hs : Hid (SibRow w bo l) := hs0
  clear hr0 hs0
  go_enter Try.func9, Try.ntmps9
  go_wp2_with fail
  refine (eqSibs_same cap cp ao bo l _ hm (hr.out.next (hb0.out _ _)) (hs.out.next (hb0.out _ _))).mono ?_
  rintro e w1 ⟨rfl, hb⟩
  have hB : Hid (Below w.heap.size w w1) := (hb0.out _ _).trans (hb.mono (by simp; omega))
  obtain ⟨hc, hf⟩ := bcell hb
  clear hb hb0
  go_wp2_with fail
  refine (eqVv_same a b c _).mono ?_
  rintro e w2 ⟨rfl, hb⟩
  go_wp2
  go_ret
  exact ⟨rfl, hB.out.trans (hb.mono hB.out.size)⟩


end Go.Proofs.Ytjjgodnbfflepaa

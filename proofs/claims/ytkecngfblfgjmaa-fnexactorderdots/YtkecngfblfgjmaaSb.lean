/- Siblings and lists of them, as the laws hand them over. -/
import Derived.Test.YtkecngfblfgjmaaRows
import Derived.WalkKit
import Derived.WalkSpells
import Derived.WalkLawsBesides
import Derived.Deep.QuietTactic
import Derived.BigQuiet
import Derived.Deep.RegionHeld3
import Derived.LoopN
import Derived.OwnWalk
import Derived.Laws.StructEq
namespace Go.Proofs.Ytkecngfblfgjmaa
open Go.RowKit
set_option linter.unusedSimpArgs false
set_option linter.unusedVariables false

theorem ret_bool {a b : Bool} (h : a = b) : Ending.returned (.bool a) = .returned (.bool b) := by rw [h]

theorem ret_int {k : IntKind} {a b : Int} (h : a = b) : Ending.returned (.int k a) = .returned (.int k b) := by rw [h]

theorem ret_ints {a b c d : Int} (h : a = b) (k : c = d) : Ending.returned (.tuple #[.int .i64 a, .int .i64 c]) = .returned (.tuple #[.int .i64 b, .int .i64 d]) := by rw [h, k]

theorem ret_bint {a b : Bool} {c d : Int} (h : a = b) (k : c = d) : Ending.returned (.tuple #[.bool a, .int .i64 c]) = .returned (.tuple #[.bool b, .int .i64 d]) := by rw [h, k]

theorem ret_vint {a b c a' b' c' : Int} {r r' : Int} (h : a = a') (k : b = b') (l : c = c') (m : r = r') : Ending.returned (.tuple #[.agg #[.int .i64 a, .int .i64 b, .int .i64 c], .int .i64 r]) = .returned (.tuple #[.agg #[.int .i64 a', .int .i64 b', .int .i64 c'], .int .i64 r']) := by rw [h, k, l, m]

theorem ret_v {a b c a' b' c' : Int} (h : a = a') (k : b = b') (l : c = c') : Ending.returned (.agg #[.int .i64 a, .int .i64 b, .int .i64 c]) = .returned (.agg #[.int .i64 a', .int .i64 b', .int .i64 c']) := by rw [h, k, l]

theorem bcell {W w1 : World} (hb : Below W.heap.size W w1) : (∀ b o, b < W.heap.size → w1.cell? ⟨b, o, none⟩ = W.cell? ⟨b, o, none⟩) ∧ (∀ b o, b < W.heap.size → w1.frozen? ⟨b, o, none⟩ = W.frozen? ⟨b, o, none⟩) :=
  ⟨fun b o h => hb.cell (p := ⟨b, o, none⟩) h, fun b o h => hb.frozen (p := ⟨b, o, none⟩) h⟩

theorem cell_next {W w1 : World} (hb : Below W.heap.size W w1) {b o : Nat} {v : Value} (h : W.cell? ⟨b, o, none⟩ = some v) (hs : b < W.heap.size) : w1.cell? ⟨b, o, none⟩ = some v := by
  rw [hb.cell (p := ⟨b, o, none⟩) hs]; exact h

theorem cell_set {W : World} {b o t j : Nat} {v u : Value} (h : W.cell? ⟨b, o, none⟩ = some v) (hne : b ≠ t) : (W.setCell ⟨t, j, none⟩ u).cell? ⟨b, o, none⟩ = some v := by
  rw [World.cell?_of_block (w := W) (Below.heap_setCell W ⟨t, j, none⟩ u b (by simpa using hne))]; exact h

theorem frozen_next {W w1 : World} (hb : Below W.heap.size W w1) {b o : Nat} (h : W.frozen? ⟨b, o, none⟩ = false) (hs : b < W.heap.size) : w1.frozen? ⟨b, o, none⟩ = false := by
  rw [hb.frozen (p := ⟨b, o, none⟩) hs]; exact h


structure Sib where
  p : Int
  n : Int
  v : Int
  d : Bool

/-- A sibling's four cells. -/
def SibAt (w : World) (b o : Nat) (x : Sib) : Prop := w.cell? ⟨b, o, none⟩ = some (.int .i64 x.p) ∧ w.cell? ⟨b, o + 1, none⟩ = some (.int .i64 x.n) ∧ w.cell? ⟨b, o + 2, none⟩ = some (.int .i64 x.v) ∧ w.cell? ⟨b, o + 3, none⟩ = some (.bool x.d)

/-- A list of siblings in memory: nothing is said of an empty one. -/
def SibRow (w : World) (ao : Option Addr) (l : List Sib) : Prop := l = [] ∨ ∃ b off, ao = some ⟨b, off, none⟩ ∧ ∀ i (h : i < l.length), SibAt w b (off + i * 4) l[i]

/-- Cells that are there and may be written. -/
def There (w : World) (g n : Nat) : Prop := ∀ j, j < n → (w.cell? ⟨g, j, none⟩).isSome = true ∧ w.frozen? ⟨g, j, none⟩ = false

theorem cell_off {W : World} {b i j : Nat} {u : Value} (h : i ≠ j) : (W.setCell ⟨b, i, none⟩ u).cell? ⟨b, j, none⟩ = W.cell? ⟨b, j, none⟩ :=
  World.cell?_setCell_other W _ _ u (fun e => h (by cases e; rfl))

theorem cell_blk {W : World} {b c i j : Nat} {u : Value} (h : b ≠ c) : (W.setCell ⟨b, i, none⟩ u).cell? ⟨c, j, none⟩ = W.cell? ⟨c, j, none⟩ :=
  World.cell?_setCell_other W _ _ u (fun e => h (by cases e; rfl))

theorem cell_here {W : World} {b i : Nat} {u : Value} (h : (W.cell? ⟨b, i, none⟩).isSome = true) : (W.setCell ⟨b, i, none⟩ u).cell? ⟨b, i, none⟩ = some u := by
  obtain ⟨v, hv⟩ := Option.isSome_iff_exists.1 h
  exact World.cell?_setCell_same W _ u hv

theorem There.set {W : World} {g n b i : Nat} {u : Value} (h : There W g n) : There (W.setCell ⟨b, i, none⟩ u) g n := fun j hj => by
  refine ⟨?_, by rw [World.frozen?_setCell]; exact (h j hj).2⟩
  obtain ⟨v, hv⟩ := Option.isSome_iff_exists.1 (h j hj).1
  obtain ⟨v', hv'⟩ := cell?_setCell_some (p := ⟨b, i, none⟩) (x := u) hv
  rw [hv']; rfl

theorem There.next {W w1 : World} {g n : Nat} (hb : Below W.heap.size W w1) (hg : g < W.heap.size) (h : There W g n) : There w1 g n := fun j hj => by
  obtain ⟨h1, h2⟩ := h j hj
  exact ⟨by rw [hb.cell (p := ⟨g, j, none⟩) hg]; exact h1, by rw [hb.frozen (p := ⟨g, j, none⟩) hg]; exact h2⟩

theorem SibAt.next {W w1 : World} {b o : Nat} {x : Sib} (hb : Below W.heap.size W w1) (hg : b < W.heap.size) (h : SibAt W b o x) : SibAt w1 b o x :=
  ⟨cell_next hb h.1 hg, cell_next hb h.2.1 hg, cell_next hb h.2.2.1 hg, cell_next hb h.2.2.2 hg⟩

theorem cell_lt {W : World} {x : Addr} {v : Value} (h : W.cell? x = some v) : x.block < W.heap.size := by
  rcases Nat.lt_or_ge x.block W.heap.size with h' | h'
  · exact h'
  · simp [World.cell?, Array.getElem?_eq_none h'] at h

theorem SibRow.next {W w1 : World} {ao : Option Addr} {l : List Sib} (hb : Below W.heap.size W w1) (h : SibRow W ao l) : SibRow w1 ao l := by
  rcases h with h | ⟨b, off, h1, h2⟩
  · exact Or.inl h
  · exact Or.inr ⟨b, off, h1, fun i hi => (h2 i hi).next hb (cell_lt (x := ⟨b, off + i * 4, none⟩) (h2 i hi).1)⟩

/-- Four stores lay a sibling; the others of the block stay. -/
theorem SibAt.put {W : World} {g n k : Nat} {x : Sib} (h : There W g n) (hk : k + 3 < n) : SibAt ((((W.setCell ⟨g, k, none⟩ (.int .i64 x.p)).setCell ⟨g, k + 1, none⟩ (.int .i64 x.n)).setCell ⟨g, k + 2, none⟩ (.int .i64 x.v)).setCell ⟨g, k + 3, none⟩ (.bool x.d)) g k x := by
  refine ⟨?_, ?_, ?_, ?_⟩
  · rw [cell_off (by omega), cell_off (by omega), cell_off (by omega)]; exact cell_here (h k (by omega)).1
  · rw [cell_off (by omega), cell_off (by omega)]; exact cell_here (h.set (k + 1) (by omega)).1
  · rw [cell_off (by omega)]; exact cell_here (h.set.set (k + 2) (by omega)).1
  · exact cell_here (h.set.set.set (k + 3) (by omega)).1

theorem SibAt.kept {W : World} {g k b o : Nat} {x y : Sib} (h : SibAt W b o x) (hne : b ≠ g ∨ o + 3 < k ∨ k + 3 < o) : SibAt ((((W.setCell ⟨g, k, none⟩ (.int .i64 y.p)).setCell ⟨g, k + 1, none⟩ (.int .i64 y.n)).setCell ⟨g, k + 2, none⟩ (.int .i64 y.v)).setCell ⟨g, k + 3, none⟩ (.bool y.d)) b o x := by
  obtain ⟨h1, h2, h3, h4⟩ := h
  have q : ∀ j, j < 4 → ∀ i, i < 4 → ∀ (V : World) (u : Value), (V.setCell ⟨g, k + i, none⟩ u).cell? ⟨b, o + j, none⟩ = V.cell? ⟨b, o + j, none⟩ := fun j hj i hi V u => by
    by_cases hb : b = g
    · subst hb; exact cell_off (by omega)
    · exact cell_blk (fun e => hb e.symm)
  refine ⟨?_, ?_, ?_, ?_⟩
  · rw [show o = o + 0 from rfl, q 0 (by omega) 3 (by omega), q 0 (by omega) 2 (by omega), q 0 (by omega) 1 (by omega)]
    have := q 0 (by omega) 0 (by omega) W (.int .i64 y.p)
    simp only [Nat.add_zero] at this ⊢
    rw [this]; exact h1
  · rw [q 1 (by omega) 3 (by omega), q 1 (by omega) 2 (by omega), q 1 (by omega) 1 (by omega)]
    have := q 1 (by omega) 0 (by omega) W (.int .i64 y.p)
    simp only [Nat.add_zero] at this
    rw [this]; exact h2
  · rw [q 2 (by omega) 3 (by omega), q 2 (by omega) 2 (by omega), q 2 (by omega) 1 (by omega)]
    have := q 2 (by omega) 0 (by omega) W (.int .i64 y.p)
    simp only [Nat.add_zero] at this
    rw [this]; exact h3
  · rw [q 3 (by omega) 3 (by omega), q 3 (by omega) 2 (by omega), q 3 (by omega) 1 (by omega)]
    have := q 3 (by omega) 0 (by omega) W (.int .i64 y.p)
    simp only [Nat.add_zero] at this
    rw [this]; exact h4

theorem SibAt.blk {W : World} {g k b o : Nat} {u : Value} {x : Sib} (h : SibAt W b o x) (hne : g ≠ b) : SibAt (W.setCell ⟨g, k, none⟩ u) b o x := by
  obtain ⟨h1, h2, h3, h4⟩ := h
  exact ⟨by rw [cell_blk hne]; exact h1, by rw [cell_blk hne]; exact h2, by rw [cell_blk hne]; exact h3, by rw [cell_blk hne]; exact h4⟩

theorem sib_keep8 {W w1 : World} {b o c q : Nat} {x y : Sib} (hb : Below W.drew.heap.size W.drew w1) (x0 : W.cell? ⟨b, o, none⟩ = some (.int .i64 x.p)) (x1 : W.cell? ⟨b, o + 1, none⟩ = some (.int .i64 x.n)) (x2 : W.cell? ⟨b, o + 2, none⟩ = some (.int .i64 x.v)) (x3 : W.cell? ⟨b, o + 3, none⟩ = some (.bool x.d)) (y0 : W.cell? ⟨c, q, none⟩ = some (.int .i64 y.p)) (y1 : W.cell? ⟨c, q + 1, none⟩ = some (.int .i64 y.n)) (y2 : W.cell? ⟨c, q + 2, none⟩ = some (.int .i64 y.v)) (y3 : W.cell? ⟨c, q + 3, none⟩ = some (.bool y.d)) :
    w1.cell? ⟨b, o, none⟩ = some (.int .i64 x.p) ∧ w1.cell? ⟨b, o + 1, none⟩ = some (.int .i64 x.n) ∧ w1.cell? ⟨b, o + 2, none⟩ = some (.int .i64 x.v) ∧ w1.cell? ⟨b, o + 3, none⟩ = some (.bool x.d) ∧ w1.cell? ⟨c, q, none⟩ = some (.int .i64 y.p) ∧ w1.cell? ⟨c, q + 1, none⟩ = some (.int .i64 y.n) ∧ w1.cell? ⟨c, q + 2, none⟩ = some (.int .i64 y.v) ∧ w1.cell? ⟨c, q + 3, none⟩ = some (.bool y.d) := by
  have k1 := cell_lt (x := ⟨b, o, none⟩) x0
  have k2 := cell_lt (x := ⟨c, q, none⟩) y0
  exact ⟨cell_next hb x0 k1, cell_next hb x1 k1, cell_next hb x2 k1, cell_next hb x3 k1, cell_next hb y0 k2, cell_next hb y1 k2, cell_next hb y2 k2, cell_next hb y3 k2⟩

/-- What 'make' lays may be written. -/
theorem made_there {w' : World} {base e n : Nat} {g : Nat} {xs : List Value} (h : w'.ownsRow base e 4 (.slice (some ⟨g, 0, none⟩) n n) n xs) : There w' g (n * 4) := by
  obtain ⟨h1, h2⟩ := h
  rcases h2 with ⟨h2, _⟩ | ⟨g', cap, cur, h2, h3, h4, h5, h6, h7, h8⟩
  · cases h2
  · cases h2
    intro j hj
    refine ⟨?_, ?_⟩
    · simp [World.cell?, h4]; omega
    · simp [World.frozen?, h4]

set_option maxHeartbeats 400000 in
theorem toDot_any (x y : Int) (w : World) :
    Calls Try.prog 6 #[.agg #[.int .i64 x, .int .i64 y]] w fun e w' => e = .returned (.agg #[.int .i64 x, .int .i64 y]) ∧ Below w.heap.size w w' := by
  go_enter Try.func6, Try.ntmps6
  go_wp2
  refine bodyPost_ret (v := .agg #[.int .i64 x, .int .i64 y]) (by simp [results, Try.results6, go_sem]) rfl ⟨rfl, ?_⟩
  repeat (first | exact Below.refl _ _ | refine Below.drew ?_ | refine below_drewN ?_ _ | refine Below.alloc ?_ (by first | (simp; done) | (simp; omega)) _ | refine Below.setCell ?_ (by first | (simp; done) | (simp; omega)) _)

set_option maxHeartbeats 1000000 in
theorem toSib_any (x : Sib) (w : World) :
    Calls Try.prog 34 #[.agg #[.int .i64 x.p, .int .i64 x.n, .int .i64 x.v, .bool x.d]] w fun e w' => e = .returned (.agg #[.int .i64 x.p, .int .i64 x.n, .int .i64 x.v, .bool x.d]) ∧ Below w.heap.size w w' := by
  go_enter Try.func34, Try.ntmps34
  go_wp2_with fail
  refine (toDot_any _ _ _).mono ?_
  rintro e w1 ⟨rfl, hb⟩
  obtain ⟨hc, hf⟩ := bcell hb
  have hz := hb.size
  simp at hz
  go_wp2_with fail
  refine bodyPost_ret (v := .agg #[.int .i64 x.p, .int .i64 x.n, .int .i64 x.v, .bool x.d]) (by simp [results, Try.results34, go_sem, hc]) rfl ⟨rfl, ?_⟩
  have hB : Below w.heap.size w w1 := ((((Below.refl _ _).alloc (Nat.le_refl _) _).alloc (by simp) _).alloc (by simp; omega) _).trans (hb.mono (by simp; omega))
  exact hB.setCell (by simp; omega) _ |>.setCell (by simp; omega) _ |>.setCell (by simp; omega) _ |>.setCell (by simp; omega) _ |>.setCell (by simp) _ |>.setCell (by simp) _ |>.setCell (by simp) _ |>.setCell (by simp) _

set_option maxHeartbeats 1000000 in
theorem toSibs_any (cap : Nat) (ao : Option Addr) (l : List Sib) (w : World) (hm : (l.length : Int) ≤ 1048576) (hr0 : SibRow w ao l) :
    Calls Try.prog 21 #[.slice ao l.length cap] w fun e w' => e = .returned (.slice (some ⟨w.heap.size, 0, none⟩) l.length l.length) ∧ Below w.heap.size w w' ∧ There w' w.heap.size (l.length * 4) ∧ (∀ i (h : i < l.length), SibAt w' w.heap.size (i * 4) l[i]) ∧ w.heap.size < w'.heap.size := by
  have hr : Hid (SibRow w ao l) := hr0
  clear hr0
  obtain ⟨w0, hrun, hown, hgrow⟩ := run_make_full (P := Try.prog) w w.heap.size 35 48 ((Try.prog.info? 48).getD default) (.agg #[.int .i64 0, .int .i64 0, .int .i64 0, .bool false]) 4 Try.underlying35 (by kernel_rfl) (by kernel_rfl) (by kernel_rfl) .i64 .i64 l.length
    (by have : ((Try.prog.info? 48).getD default).bytes = 32 := by kernel_rfl
        rw [this]; omega) (by unfold maxLen; omega) (Nat.le_refl _)
  have hT : Hid (There w0 w.heap.size (l.length * 4)) := made_there hown
  have hB : Hid (Below w.heap.size w w0) := (Below.refl _ _).grown hgrow (Nat.le_refl _) (fun k e => by cases e)
  have hlt : Hid (w.heap.size < w0.heap.size) := by
    obtain ⟨_, h2⟩ := hown
    rcases h2 with ⟨h2, _⟩ | ⟨g', cp, cur, h2, h3, h4, _⟩
    · cases h2
    · cases h2
      rcases Nat.lt_or_ge w.heap.size w0.heap.size with h' | h'
      · exact h'
      · rw [Array.getElem?_eq_none h'] at h4; cases h4
  clear hown hgrow
  go_enter Try.func21, Try.ntmps21
  go_wp2
  clear hrun
  go_loopw [4] (fun s4 wr => ∃ k : Nat, k ≤ l.length ∧ s4 = .int .i64 k ∧ Below w.heap.size w wr ∧ There wr w.heap.size (l.length * 4) ∧ (∀ i (h : i < l.length), i < k → SibAt wr w.heap.size (i * 4) l[i]) ∧ w.heap.size < wr.heap.size) (fun s4 _ => l.length - (intOf s4).toNat)
  case atStart => exact ⟨0, by omega, rfl, hB.out, hT.out, fun i h h' => by omega, hlt.out⟩
  case round =>
    clear hT hB hlt
    obtain ⟨k, hk, rfl, hB0, hT0, hS0, hlt0⟩ := hrel
    have hB : Hid (Below w.heap.size w wr) := hB0
    have hT : Hid (There wr w.heap.size (l.length * 4)) := hT0
    have hS : Hid (∀ i (h : i < l.length), i < k → SibAt wr w.heap.size (i * 4) l[i]) := hS0
    clear hB0 hT0 hS0
    by_cases hkl : k < l.length
    · have hkl' : (k : Int) < (l.length : Int) := by omega
      rcases hr.out with h' | ⟨b, off, rfl, h2⟩
      · rw [h'] at hkl; simp at hkl
      have hx := (h2 k (by omega)).next hB.out (cell_lt (x := ⟨b, off + k * 4, none⟩) (h2 k (by omega)).1)
      obtain ⟨x0, x1, x2, x3⟩ := hx
      go_wp2_with fail
      refine (toSib_any l[k] wr).mono ?_
      rintro e w1 ⟨rfl, hb⟩
      have hT1 : Hid (There w1 w.heap.size (l.length * 4)) := hT.out.next hb hlt0
      have hB1 : Hid (Below w.heap.size w w1) := hB.out.trans (hb.mono (by omega))
      have hS1 : Hid (∀ i (h : i < l.length), i < k → SibAt w1 w.heap.size (i * 4) l[i]) := fun i h h' => (hS.out i h h').next hb hlt0
      have hlt1 : Hid (w.heap.size < w1.heap.size) := Nat.lt_of_lt_of_le hlt0 hb.size
      obtain ⟨v0, y0⟩ := Option.isSome_iff_exists.1 (hT1.out (k * 4) (by omega)).1
      obtain ⟨v1, y1⟩ := Option.isSome_iff_exists.1 (hT1.out (k * 4 + 1) (by omega)).1
      obtain ⟨v2, y2⟩ := Option.isSome_iff_exists.1 (hT1.out (k * 4 + 2) (by omega)).1
      obtain ⟨v3, y3⟩ := Option.isSome_iff_exists.1 (hT1.out (k * 4 + 3) (by omega)).1
      have z0 := (hT1.out (k * 4) (by omega)).2
      have z1 := (hT1.out (k * 4 + 1) (by omega)).2
      have z2 := (hT1.out (k * 4 + 2) (by omega)).2
      have z3 := (hT1.out (k * 4 + 3) (by omega)).2
      clear hb hT hB hS x0 x1 x2 x3 hlt0
      go_wp2_with fail
      go_roundw
      case rel =>
        refine ⟨k + 1, by omega, by go_num, hB1.out.setCell (Nat.le_refl _) _ |>.setCell (Nat.le_refl _) _ |>.setCell (Nat.le_refl _) _ |>.setCell (Nat.le_refl _) _, hT1.out.set.set.set.set, fun i h h' => ?_, by simpa [World.setCell] using hlt1.out⟩
        by_cases e : i = k
        · subst e; exact SibAt.put hT1.out (by omega)
        · exact (hS1.out i h (by omega)).kept (Or.inr (by omega))
      case measure => simp [intOf]; omega
    · have hkl' : ¬ (k : Int) < (l.length : Int) := by omega
      go_wp2
      go_ret
      refine ⟨rfl, hB.out, hT.out, fun i h => hS.out i h (by omega), hlt0⟩

set_option maxHeartbeats 1000000 in
theorem toVv_any (a b c : Int) (w : World) :
    Calls Try.prog 22 #[.agg #[.int .i64 a, .int .i64 b, .int .i64 c]] w fun e w' => e = .returned (.agg #[.int .i64 a, .int .i64 b, .int .i64 c]) ∧ Below w.heap.size w w' := by
  go_enter Try.func22, Try.ntmps22
  go_wp2
  refine wp_loop_rounds 4 ?_
  repeat (rw [rounds_succ]; go_wp2)
  refine bodyPost_ret (v := .agg #[.int .i64 a, .int .i64 b, .int .i64 c]) (by simp [results, Try.results22, go_sem]) rfl ⟨rfl, ?_⟩
  repeat (first | exact Below.refl _ _ | refine Below.drew ?_ | refine below_drewN ?_ _ | refine Below.alloc ?_ (by first | (simp; done) | (simp; omega)) _ | refine Below.setCell ?_ (by first | (simp; done) | (simp; omega)) _)

set_option maxHeartbeats 1000000 in
theorem toObj_any (cap : Nat) (ao : Option Addr) (l : List Sib) (a b c : Int) (w : World) (hm : (l.length : Int) ≤ 1048576) (hr0 : SibRow w ao l) :
    Calls Try.prog 10 #[.agg #[.slice ao l.length cap, .int .i64 a, .int .i64 b, .int .i64 c]] w fun e w' => ∃ g, e = .returned (.agg #[.slice (some ⟨g, 0, none⟩) l.length l.length, .int .i64 a, .int .i64 b, .int .i64 c]) ∧ Below w.heap.size w w' ∧ w.heap.size ≤ g ∧ g < w'.heap.size ∧ There w' g (l.length * 4) ∧ (∀ i (h : i < l.length), SibAt w' g (i * 4) l[i]) := by
  have hr : Hid (SibRow w ao l) := hr0
  clear hr0
  go_enter Try.func10, Try.ntmps10
  go_wp2_with fail
  refine (toSibs_any cap ao l _ hm (hr.out.next ((((Below.refl _ _).alloc (Nat.le_refl _) _).alloc (by simp) _).alloc (by simp; omega) _))).mono ?_
  rintro e w1 ⟨rfl, hb, hT0, hS0, hlt0⟩
  simp only [World.size_alloc] at hT0 hS0 hlt0
  obtain ⟨hc, hf⟩ := bcell hb
  have hB : Hid (Below w.heap.size w w1) := ((((Below.refl _ _).alloc (Nat.le_refl _) _).alloc (by simp) _).alloc (by simp; omega) _).trans (hb.mono (by simp; omega))
  have hT : Hid (There w1 (w.heap.size + 1 + 1 + 1) (l.length * 4)) := hT0
  have hS : Hid (∀ i (h : i < l.length), SibAt w1 (w.heap.size + 1 + 1 + 1) (i * 4) l[i]) := hS0
  have q0 : w.heap.size < w1.heap.size := by omega
  have q1 : w.heap.size + 1 < w1.heap.size := by omega
  have q2 : w.heap.size + 1 + 1 < w1.heap.size := by omega
  have q3 : Hid (w.heap.size + 1 + 1 + 1 < w1.heap.size) := hlt0
  have A0 := cell_next hb (b := w.heap.size) (o := 1) (v := .int .i64 a) (by go_simp) (by first | (simp; done) | (simp; omega))
  have A1 := cell_next hb (b := w.heap.size) (o := 2) (v := .int .i64 b) (by go_simp) (by first | (simp; done) | (simp; omega))
  have A2 := cell_next hb (b := w.heap.size) (o := 3) (v := .int .i64 c) (by go_simp) (by first | (simp; done) | (simp; omega))
  have P0 := cell_next hb (b := w.heap.size + 1 + 1) (o := 0) (v := .slice none 0 0) (by go_simp) (by first | (simp; done) | (simp; omega))
  have P1 := cell_next hb (b := w.heap.size + 1 + 1) (o := 1) (v := .int .i64 0) (by go_simp) (by first | (simp; done) | (simp; omega))
  have P2 := cell_next hb (b := w.heap.size + 1 + 1) (o := 2) (v := .int .i64 0) (by go_simp) (by first | (simp; done) | (simp; omega))
  have P3 := cell_next hb (b := w.heap.size + 1 + 1) (o := 3) (v := .int .i64 0) (by go_simp) (by first | (simp; done) | (simp; omega))
  have O0 := cell_next hb (b := w.heap.size + 1) (o := 0) (v := .slice none 0 0) (by go_simp) (by first | (simp; done) | (simp; omega))
  have O1 := cell_next hb (b := w.heap.size + 1) (o := 1) (v := .int .i64 0) (by go_simp) (by first | (simp; done) | (simp; omega))
  have O2 := cell_next hb (b := w.heap.size + 1) (o := 2) (v := .int .i64 0) (by go_simp) (by first | (simp; done) | (simp; omega))
  have O3 := cell_next hb (b := w.heap.size + 1) (o := 3) (v := .int .i64 0) (by go_simp) (by first | (simp; done) | (simp; omega))
  have FP0 := frozen_next hb (b := w.heap.size + 1 + 1) (o := 0) (by go_simp) (by first | (simp; done) | (simp; omega))
  have FP1 := frozen_next hb (b := w.heap.size + 1 + 1) (o := 1) (by go_simp) (by first | (simp; done) | (simp; omega))
  have FP2 := frozen_next hb (b := w.heap.size + 1 + 1) (o := 2) (by go_simp) (by first | (simp; done) | (simp; omega))
  have FP3 := frozen_next hb (b := w.heap.size + 1 + 1) (o := 3) (by go_simp) (by first | (simp; done) | (simp; omega))
  have FO0 := frozen_next hb (b := w.heap.size + 1) (o := 0) (by go_simp) (by first | (simp; done) | (simp; omega))
  have FO1 := frozen_next hb (b := w.heap.size + 1) (o := 1) (by go_simp) (by first | (simp; done) | (simp; omega))
  have FO2 := frozen_next hb (b := w.heap.size + 1) (o := 2) (by go_simp) (by first | (simp; done) | (simp; omega))
  have FO3 := frozen_next hb (b := w.heap.size + 1) (o := 3) (by go_simp) (by first | (simp; done) | (simp; omega))
  clear hb hc hf hT0 hS0 hlt0
  go_wp2_with fail
  refine (toVv_any a b c _).mono ?_
  rintro e w2 ⟨rfl, hb⟩
  have hsz : (w1.setCell ⟨w.heap.size + 1 + 1, 0, none⟩ (.slice (some ⟨w.heap.size + 1 + 1 + 1, 0, none⟩) l.length l.length)).heap.size = w1.heap.size := by simp [World.setCell]
  have hB2 : Hid (Below w.heap.size w w2) := (hB.out.setCell (by simp; omega) _).trans (hb.mono (by rw [hsz]; omega))
  have hT2 : Hid (There w2 (w.heap.size + 1 + 1 + 1) (l.length * 4)) := hT.out.set.next hb (by rw [hsz]; exact q3.out)
  have hS2 : Hid (∀ i (h : i < l.length), SibAt w2 (w.heap.size + 1 + 1 + 1) (i * 4) l[i]) := fun i h => (SibAt.blk (hS.out i h) (by omega)).next hb (by rw [hsz]; exact q3.out)
  have q4 : Hid (w.heap.size + 1 + 1 + 1 < w2.heap.size) := Nat.lt_of_lt_of_le q3.out (by have := hb.size; rwa [hsz] at this)
  have P0' := cell_next hb (b := w.heap.size + 1 + 1) (o := 0) (v := (.slice (some ⟨w.heap.size + 1 + 1 + 1, 0, none⟩) l.length l.length)) (by go_simp) (by rw [hsz]; omega)
  have FP0' := frozen_next hb (b := w.heap.size + 1 + 1) (o := 0) (by go_simp) (by rw [hsz]; omega)
  have P1' := cell_next hb (b := w.heap.size + 1 + 1) (o := 1) (v := (.int .i64 0)) (by go_simp) (by rw [hsz]; omega)
  have FP1' := frozen_next hb (b := w.heap.size + 1 + 1) (o := 1) (by go_simp) (by rw [hsz]; omega)
  have P2' := cell_next hb (b := w.heap.size + 1 + 1) (o := 2) (v := (.int .i64 0)) (by go_simp) (by rw [hsz]; omega)
  have FP2' := frozen_next hb (b := w.heap.size + 1 + 1) (o := 2) (by go_simp) (by rw [hsz]; omega)
  have P3' := cell_next hb (b := w.heap.size + 1 + 1) (o := 3) (v := (.int .i64 0)) (by go_simp) (by rw [hsz]; omega)
  have FP3' := frozen_next hb (b := w.heap.size + 1 + 1) (o := 3) (by go_simp) (by rw [hsz]; omega)
  have O0' := cell_next hb (b := w.heap.size + 1) (o := 0) (v := (.slice none 0 0)) (by go_simp) (by rw [hsz]; omega)
  have FO0' := frozen_next hb (b := w.heap.size + 1) (o := 0) (by go_simp) (by rw [hsz]; omega)
  have O1' := cell_next hb (b := w.heap.size + 1) (o := 1) (v := (.int .i64 0)) (by go_simp) (by rw [hsz]; omega)
  have FO1' := frozen_next hb (b := w.heap.size + 1) (o := 1) (by go_simp) (by rw [hsz]; omega)
  have O2' := cell_next hb (b := w.heap.size + 1) (o := 2) (v := (.int .i64 0)) (by go_simp) (by rw [hsz]; omega)
  have FO2' := frozen_next hb (b := w.heap.size + 1) (o := 2) (by go_simp) (by rw [hsz]; omega)
  have O3' := cell_next hb (b := w.heap.size + 1) (o := 3) (v := (.int .i64 0)) (by go_simp) (by rw [hsz]; omega)
  have FO3' := frozen_next hb (b := w.heap.size + 1) (o := 3) (by go_simp) (by rw [hsz]; omega)
  clear hb hsz hB hT hS q3 q0 q1 q2 A0 A1 A2 P0 O0 FP0 FO0 P1 O1 FP1 FO1 P2 O2 FP2 FO2 P3 O3 FP3 FO3
  go_wp2_with fail
  refine bodyPost_ret (v := .agg #[.slice (some ⟨w.heap.size + 1 + 1 + 1, 0, none⟩) l.length l.length, .int .i64 a, .int .i64 b, .int .i64 c]) (by simp [results, Try.results10, go_sem, P0', O0', FP0', FO0', P1', O1', FP1', FO1', P2', O2', FP2', FO2', P3', O3', FP3', FO3']) rfl ⟨w.heap.size + 1 + 1 + 1, rfl, ?_, by omega, ?_, ?_, ?_⟩
  · exact hB2.out.setCell (by simp; omega) _ |>.setCell (by simp; omega) _ |>.setCell (by simp; omega) _ |>.setCell (by simp) _ |>.setCell (by simp) _ |>.setCell (by simp) _ |>.setCell (by simp) _
  · simpa [World.setCell] using q4.out
  · exact hT2.out.set.set.set.set.set.set.set
  · intro i h
    exact ((((((((hS2.out i h).blk (by omega)).blk (by omega)).blk (by omega)).blk (by omega)).blk (by omega)).blk (by omega)).blk (by omega))

set_option maxHeartbeats 400000 in
theorem eqDot_same (x y : Int) (w : World) :
    Calls Try.prog 38 #[.agg #[.int .i64 x, .int .i64 y], .agg #[.int .i64 x, .int .i64 y]] w fun e w' => e = .returned (.bool true) ∧ Below w.heap.size w w' := by
  go_enter Try.func38, Try.ntmps38
  go_wp2
  go_ret
  refine ⟨rfl, ?_⟩
  repeat (first | exact Below.refl _ _ | refine Below.drew ?_ | refine below_drewN ?_ _ | refine Below.alloc ?_ (by first | (simp; done) | (simp; omega)) _ | refine Below.setCell ?_ (by first | (simp; done) | (simp; omega)) _)

set_option maxHeartbeats 1000000 in
theorem eqSib_same (x : Sib) (w : World) :
    Calls Try.prog 36 #[.agg #[.int .i64 x.p, .int .i64 x.n, .int .i64 x.v, .bool x.d], .agg #[.int .i64 x.p, .int .i64 x.n, .int .i64 x.v, .bool x.d]] w fun e w' => e = .returned (.bool true) ∧ Below w.heap.size w w' := by
  go_enter Try.func36, Try.ntmps36
  go_wp2_with fail
  refine (eqDot_same _ _ _).mono ?_
  rintro e w1 ⟨rfl, hb⟩
  obtain ⟨hc, hf⟩ := bcell hb
  have hz := hb.size
  simp at hz
  have hB : Hid (Below w.heap.size w w1) := (((Below.refl _ _).alloc (Nat.le_refl _) _).alloc (by simp) _).trans (hb.mono (by simp; omega))
  clear hb
  go_wp2
  go_ret
  exact ⟨rfl, hB.out⟩

set_option maxHeartbeats 1000000 in
theorem eqSibs_same (cap cp : Nat) (ao bo : Option Addr) (l : List Sib) (w : World) (hm : (l.length : Int) ≤ 1048576) (hr0 : SibRow w ao l) (hs0 : SibRow w bo l) :
    Calls Try.prog 26 #[.slice ao l.length cap, .slice bo l.length cp] w fun e w' => e = .returned (.bool true) ∧ Below w.heap.size w w' := by
  have hr : Hid (SibRow w ao l) := hr0
  have hs : Hid (SibRow w bo l) := hs0
  clear hr0 hs0
  go_enter Try.func26, Try.ntmps26
  go_wp2
  go_loopw [5] (fun s5 wr => ∃ k : Nat, k ≤ l.length ∧ s5 = .int .i64 k ∧ Below w.heap.size w wr) (fun s5 _ => l.length - (intOf s5).toNat)
  case atStart => exact ⟨0, by omega, rfl, Below.refl _ _⟩
  case round =>
    obtain ⟨k, hk, rfl, hB0⟩ := hrel
    have hB : Hid (Below w.heap.size w wr) := hB0
    clear hB0
    by_cases hkl : k < l.length
    · have hkl' : (k : Int) < (l.length : Int) := by omega
      rcases hr.out with h' | ⟨b, off, rfl, h2⟩
      · rw [h'] at hkl; simp at hkl
      rcases hs.out with h' | ⟨c, oft, rfl, h3⟩
      · rw [h'] at hkl; simp at hkl
      obtain ⟨x0, x1, x2, x3⟩ := (h2 k hkl).next hB.out (cell_lt (x := ⟨b, off + k * 4, none⟩) (h2 k hkl).1)
      obtain ⟨y0, y1, y2, y3⟩ := (h3 k hkl).next hB.out (cell_lt (x := ⟨c, oft + k * 4, none⟩) (h3 k hkl).1)
      have k0 : (0 : Int) ≤ (k : Int) := by omega
      clear h2 h3
      go_wp2_with fail
      go_region_held3 (fun w' => w'.cell? ⟨b, off + k * 4, none⟩ = some (.int .i64 l[k].p) ∧ w'.cell? ⟨b, off + k * 4 + 1, none⟩ = some (.int .i64 l[k].n) ∧ w'.cell? ⟨b, off + k * 4 + 2, none⟩ = some (.int .i64 l[k].v) ∧ w'.cell? ⟨b, off + k * 4 + 3, none⟩ = some (.bool l[k].d) ∧ w'.cell? ⟨c, oft + k * 4, none⟩ = some (.int .i64 l[k].p) ∧ w'.cell? ⟨c, oft + k * 4 + 1, none⟩ = some (.int .i64 l[k].n) ∧ w'.cell? ⟨c, oft + k * 4 + 2, none⟩ = some (.int .i64 l[k].v) ∧ w'.cell? ⟨c, oft + k * 4 + 3, none⟩ = some (.bool l[k].d)) (first | (with_reducible assumption) | exact ⟨x0, x1, x2, x3, y0, y1, y2, y3⟩) (first | (go_at_call 36; refine (eqSib_same l[k] _).mono ?_; rintro e w1 ⟨rfl, hb⟩; have hK := sib_keep8 hb x0 x1 x2 x3 y0 y1 y2 y3))
      have hB1 : Hid (Below w.heap.size w w1) := hB.out.drew.trans (hb.mono hB.out.size)
      clear hb hK
      go_wp2
      go_roundw
      case rel => exact ⟨k + 1, by omega, by go_num, hB1.out⟩
      case measure => simp [intOf]; omega
    · have hkl' : ¬ (k : Int) < (l.length : Int) := by omega
      go_wp2
      go_ret
      exact ⟨rfl, hB.out⟩
end Go.Proofs.Ytkecngfblfgjmaa

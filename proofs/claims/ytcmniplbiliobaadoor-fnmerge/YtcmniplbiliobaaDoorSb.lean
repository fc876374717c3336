/- Siblings and lists of them, as the laws hand them over. -/
import Derived.Test.YtcmniplbiliobaaDoorRows
import Derived.WalkKit
import Derived.WalkSpells
import Derived.WalkLawsBesides
import Derived.Deep.QuietTactic
import Derived.BigQuiet
import Derived.Deep.RegionHeld3
import Derived.LoopN
import Derived.OwnWalk
import Derived.Laws.StructEq
namespace Go.Proofs.YtcmniplbiliobaaDoor
open Go.RowKit
set_option linter.unusedSimpArgs false
set_option linter.unusedVariables false

theorem ret_bool {a b : Bool} (h : a = b) : Ending.returned (.bool a) = .returned (.bool b) := by rw [h]

theorem ret_int {k : IntKind} {a b : Int} (h : a = b) : Ending.returned (.int k a) = .returned (.int k b) := by rw [h]

theorem ret_ints {a b c d : Int} (h : a = b) (k : c = d) : Ending.returned (.tuple #[.int .i64 a, .int .i64 c]) = .returned (.tuple #[.int .i64 b, .int .i64 d]) := by rw [h, k]

theorem ret_bint {a b : Bool} {c d : Int} (h : a = b) (k : c = d) : Ending.returned (.tuple #[.bool a, .int .i64 c]) = .returned (.tuple #[.bool b, .int .i64 d]) := by rw [h, k]

theorem ret_vint {a b c a' b' c' : Int} {r r' : Int} (h : a = a') (k : b = b') (l : c = c') (m : r = r') : Ending.returned (.tuple #[.agg #[.int .i64 a, .int .i64 b, .int .i64 c], .int .i64 r]) = .returned (.tuple #[.agg #[.int .i64 a', .int .i64 b', .int .i64 c'], .int .i64 r']) := by rw [h, k, l, m]

theorem ret_v {a b c a' b' c' : Int} (h : a = a') (k : b = b') (l : c = c') : Ending.returned (.agg #[.int .i64 a, .int .i64 b, .int .i64 c]) = .returned (.agg #[.int .i64 a', .int .i64 b', .int .i64 c']) := by rw [h, k, l]

theorem bcell {W w1 : World} (hb : Below W.heap.size W w1) : (∀ b o, b < W.heap.size → w1.cell? ⟨b, o, none⟩ = W.cell? ⟨b, o, none⟩) ∧ (∀ b o, b < W.heap.size → w1.frozen? ⟨b, o, none⟩ = W.frozen? ⟨b, o, none⟩) :=
  ⟨fun b o h => hb.cell (p := ⟨b, o, none⟩) h, fun b o h => hb.frozen (p := ⟨b, o, none⟩) h⟩

theorem cell_next {W w1 : World} (hb : Below W.heap.size W w1) {b o : Nat} {v : Value} (h : W.cell? ⟨b, o, none⟩ = some v) (hs : b < W.heap.size) : w1.cell? ⟨b, o, none⟩ = some v := by
  rw [hb.cell (p := ⟨b, o, none⟩) hs]; exact h

theorem cell_set {W : World} {b o t j : Nat} {v u : Value} (h : W.cell? ⟨b, o, none⟩ = some v) (hne : b ≠ t) : (W.setCell ⟨t, j, none⟩ u).cell? ⟨b, o, none⟩ = some v := by
  rw [World.cell?_of_block (w := W) (Below.heap_setCell W ⟨t, j, none⟩ u b (by simpa using hne))]; exact h

theorem frozen_next {W w1 : World} (hb : Below W.heap.size W w1) {b o : Nat} (h : W.frozen? ⟨b, o, none⟩ = false) (hs : b < W.heap.size) : w1.frozen? ⟨b, o, none⟩ = false := by
  rw [hb.frozen (p := ⟨b, o, none⟩) hs]; exact h


structure Sib where
  p : Int
  n : Int
  v : Int
  d : Bool

/-- A sibling's four cells. -/
def SibAt (w : World) (b o : Nat) (x : Sib) : Prop := w.cell? ⟨b, o, none⟩ = some (.int .i64 x.p) ∧ w.cell? ⟨b, o + 1, none⟩ = some (.int .i64 x.n) ∧ w.cell? ⟨b, o + 2, none⟩ = some (.int .i64 x.v) ∧ w.cell? ⟨b, o + 3, none⟩ = some (.bool x.d)

/-- A list of siblings in memory: nothing is said of an empty one. -/
def SibRow (w : World) (ao : Option Addr) (l : List Sib) : Prop := l = [] ∨ ∃ b off, ao = some ⟨b, off, none⟩ ∧ ∀ i (h : i < l.length), SibAt w b (off + i * 4) l[i]

/-- Cells that are there and may be written. -/
def There (w : World) (g n : Nat) : Prop := ∀ j, j < n → (w.cell? ⟨g, j, none⟩).isSome = true ∧ w.frozen? ⟨g, j, none⟩ = false

theorem cell_off {W : World} {b i j : Nat} {u : Value} (h : i ≠ j) : (W.setCell ⟨b, i, none⟩ u).cell? ⟨b, j, none⟩ = W.cell? ⟨b, j, none⟩ :=
  World.cell?_setCell_other W _ _ u (fun e => h (by cases e; rfl))

theorem cell_blk {W : World} {b c i j : Nat} {u : Value} (h : b ≠ c) : (W.setCell ⟨b, i, none⟩ u).cell? ⟨c, j, none⟩ = W.cell? ⟨c, j, none⟩ :=
  World.cell?_setCell_other W _ _ u (fun e => h (by cases e; rfl))

theorem cell_here {W : World} {b i : Nat} {u : Value} (h : (W.cell? ⟨b, i, none⟩).isSome = true) : (W.setCell ⟨b, i, none⟩ u).cell? ⟨b, i, none⟩ = some u := by
  obtain ⟨v, hv⟩ := Option.isSome_iff_exists.1 h
  exact World.cell?_setCell_same W _ u hv

theorem There.set {W : World} {g n b i : Nat} {u : Value} (h : There W g n) : There (W.setCell ⟨b, i, none⟩ u) g n := fun j hj => by
  refine ⟨?_, by rw [World.frozen?_setCell]; exact (h j hj).2⟩
  obtain ⟨v, hv⟩ := Option.isSome_iff_exists.1 (h j hj).1
  obtain ⟨v', hv'⟩ := cell?_setCell_some (p := ⟨b, i, none⟩) (x := u) hv
  rw [hv']; rfl

theorem There.next {W w1 : World} {g n : Nat} (hb : Below W.heap.size W w1) (hg : g < W.heap.size) (h : There W g n) : There w1 g n := fun j hj => by
  obtain ⟨h1, h2⟩ := h j hj
  exact ⟨by rw [hb.cell (p := ⟨g, j, none⟩) hg]; exact h1, by rw [hb.frozen (p := ⟨g, j, none⟩) hg]; exact h2⟩

theorem SibAt.next {W w1 : World} {b o : Nat} {x : Sib} (hb : Below W.heap.size W w1) (hg : b < W.heap.size) (h : SibAt W b o x) : SibAt w1 b o x :=
  ⟨cell_next hb h.1 hg, cell_next hb h.2.1 hg, cell_next hb h.2.2.1 hg, cell_next hb h.2.2.2 hg⟩

theorem cell_lt {W : World} {x : Addr} {v : Value} (h : W.cell? x = some v) : x.block < W.heap.size := by
  rcases Nat.lt_or_ge x.block W.heap.size with h' | h'
  · exact h'
  · simp [World.cell?, Array.getElem?_eq_none h'] at h

theorem SibRow.next {W w1 : World} {ao : Option Addr} {l : List Sib} (hb : Below W.heap.size W w1) (h : SibRow W ao l) : SibRow w1 ao l := by
  rcases h with h | ⟨b, off, h1, h2⟩
  · exact Or.inl h
  · exact Or.inr ⟨b, off, h1, fun i hi => (h2 i hi).next hb (cell_lt (x := ⟨b, off + i * 4, none⟩) (h2 i hi).1)⟩

/-- Four stores lay a sibling; the others of the block stay. -/
theorem SibAt.put {W : World} {g n k : Nat} {x : Sib} (h : There W g n) (hk : k + 3 < n) : SibAt ((((W.setCell ⟨g, k, none⟩ (.int .i64 x.p)).setCell ⟨g, k + 1, none⟩ (.int .i64 x.n)).setCell ⟨g, k + 2, none⟩ (.int .i64 x.v)).setCell ⟨g, k + 3, none⟩ (.bool x.d)) g k x := by
  refine ⟨?_, ?_, ?_, ?_⟩
  · rw [cell_off (by omega), cell_off (by omega), cell_off (by omega)]; exact cell_here (h k (by omega)).1
  · rw [cell_off (by omega), cell_off (by omega)]; exact cell_here (h.set (k + 1) (by omega)).1
  · rw [cell_off (by omega)]; exact cell_here (h.set.set (k + 2) (by omega)).1
  · exact cell_here (h.set.set.set (k + 3) (by omega)).1

theorem SibAt.kept {W : World} {g k b o : Nat} {x y : Sib} (h : SibAt W b o x) (hne : b ≠ g ∨ o + 3 < k ∨ k + 3 < o) : SibAt ((((W.setCell ⟨g, k, none⟩ (.int .i64 y.p)).setCell ⟨g, k + 1, none⟩ (.int .i64 y.n)).setCell ⟨g, k + 2, none⟩ (.int .i64 y.v)).setCell ⟨g, k + 3, none⟩ (.bool y.d)) b o x := by
  obtain ⟨h1, h2, h3, h4⟩ := h
  have q : ∀ j, j < 4 → ∀ i, i < 4 → ∀ (V : World) (u : Value), (V.setCell ⟨g, k + i, none⟩ u).cell? ⟨b, o + j, none⟩ = V.cell? ⟨b, o + j, none⟩ := fun j hj i hi V u => by
    by_cases hb : b = g
    · subst hb; exact cell_off (by omega)
    · exact cell_blk (fun e => hb e.symm)
  refine ⟨?_, ?_, ?_, ?_⟩
  · rw [show o = o + 0 from rfl, q 0 (by omega) 3 (by omega), q 0 (by omega) 2 (by omega), q 0 (by omega) 1 (by omega)]
    have := q 0 (by omega) 0 (by omega) W (.int .i64 y.p)
    simp only [Nat.add_zero] at this ⊢
    rw [this]; exact h1
  · rw [q 1 (by omega) 3 (by omega), q 1 (by omega) 2 (by omega), q 1 (by omega) 1 (by omega)]
    have := q 1 (by omega) 0 (by omega) W (.int .i64 y.p)
    simp only [Nat.add_zero] at this
    rw [this]; exact h2
  · rw [q 2 (by omega) 3 (by omega), q 2 (by omega) 2 (by omega), q 2 (by omega) 1 (by omega)]
    have := q 2 (by omega) 0 (by omega) W (.int .i64 y.p)
    simp only [Nat.add_zero] at this
    rw [this]; exact h3
  · rw [q 3 (by omega) 3 (by omega), q 3 (by omega) 2 (by omega), q 3 (by omega) 1 (by omega)]
    have := q 3 (by omega) 0 (by omega) W (.int .i64 y.p)
    simp only [Nat.add_zero] at this
    rw [this]; exact h4

theorem SibAt.blk {W : World} {g k b o : Nat} {u : Value} {x : Sib} (h : SibAt W b o x) (hne : g ≠ b) : SibAt (W.setCell ⟨g, k, none⟩ u) b o x := by
  obtain ⟨h1, h2, h3, h4⟩ := h
  exact ⟨by rw [cell_blk hne]; exact h1, by rw [cell_blk hne]; exact h2, by rw [cell_blk hne]; exact h3, by rw [cell_blk hne]; exact h4⟩

theorem sib_keep8 {W w1 : World} {b o c q : Nat} {x y : Sib} (hb : Below W.drew.heap.size W.drew w1) (x0 : W.cell? ⟨b, o, none⟩ = some (.int .i64 x.p)) (x1 : W.cell? ⟨b, o + 1, none⟩ = some (.int .i64 x.n)) (x2 : W.cell? ⟨b, o + 2, none⟩ = some (.int .i64 x.v)) (x3 : W.cell? ⟨b, o + 3, none⟩ = some (.bool x.d)) (y0 : W.cell? ⟨c, q, none⟩ = some (.int .i64 y.p)) (y1 : W.cell? ⟨c, q + 1, none⟩ = some (.int .i64 y.n)) (y2 : W.cell? ⟨c, q + 2, none⟩ = some (.int .i64 y.v)) (y3 : W.cell? ⟨c, q + 3, none⟩ = some (.bool y.d)) :
    w1.cell? ⟨b, o, none⟩ = some (.int .i64 x.p) ∧ w1.cell? ⟨b, o + 1, none⟩ = some (.int .i64 x.n) ∧ w1.cell? ⟨b, o + 2, none⟩ = some (.int .i64 x.v) ∧ w1.cell? ⟨b, o + 3, none⟩ = some (.bool x.d) ∧ w1.cell? ⟨c, q, none⟩ = some (.int .i64 y.p) ∧ w1.cell? ⟨c, q + 1, none⟩ = some (.int .i64 y.n) ∧ w1.cell? ⟨c, q + 2, none⟩ = some (.int .i64 y.v) ∧ w1.cell? ⟨c, q + 3, none⟩ = some (.bool y.d) := by
  have k1 := cell_lt (x := ⟨b, o, none⟩) x0
  have k2 := cell_lt (x := ⟨c, q, none⟩) y0
  exact ⟨cell_next hb x0 k1, cell_next hb x1 k1, cell_next hb x2 k1, cell_next hb x3 k1, cell_next hb y0 k2, cell_next hb y1 k2, cell_next hb y2 k2, cell_next hb y3 k2⟩

/-- What 'make' lays may be written. -/
theorem made_there {w' : World} {base e n : Nat} {g : Nat} {xs : List Value} (h : w'.ownsRow base e 4 (.slice (some ⟨g, 0, none⟩) n n) n xs) : There w' g (n * 4) := by
  obtain ⟨h1, h2⟩ := h
  rcases h2 with ⟨h2, _⟩ | ⟨g', cap, cur, h2, h3, h4, h5, h6, h7, h8⟩
  · cases h2
  · cases h2
    intro j hj
    refine ⟨?_, ?_⟩
    · simp [World.cell?, h4]; omega
    · simp [World.frozen?, h4]
end Go.Proofs.YtcmniplbiliobaaDoor

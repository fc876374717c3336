/- joined: one walk along both lists. -/
import Derived.Test.YtgnacdhceiapkaaDoorRows
import Derived.WalkKit
import Derived.WalkSpells
import Derived.WalkLawsBesides
import Derived.Deep.QuietTactic
import Derived.BigQuiet
import Derived.Deep.RegionHeld3
import Derived.Test.YtgnacdhceiapkaaDoorJn
import Derived.Test.YtgnacdhceiapkaaDoorLk
import Derived.Test.YtgnacdhceiapkaaDoorMk
import Derived.LoopN
import Derived.WalkMore
import Derived.Deep.LoopGhost
namespace Go.Proofs.YtgnacdhceiapkaaDoor
open Go.RowKit
set_option linter.unusedSimpArgs false
set_option linter.unusedVariables false

def lenV : Value → Nat
  | .slice _ n _ => n
  | _ => 0
/-- The boxes of both objects, and the result's cell. -/
def JB (g : Nat) (W : World) (a b c x y z : Int) : Prop := (W.cell? ⟨g, 1, none⟩ = some (.int .i64 a) ∧ W.cell? ⟨g, 2, none⟩ = some (.int .i64 b) ∧ W.cell? ⟨g, 3, none⟩ = some (.int .i64 c)) ∧ (W.cell? ⟨g + 1, 1, none⟩ = some (.int .i64 x) ∧ W.cell? ⟨g + 1, 2, none⟩ = some (.int .i64 y) ∧ W.cell? ⟨g + 1, 3, none⟩ = some (.int .i64 z)) ∧ There W (g + 1 + 1) 4 ∧ g + 1 + 1 < W.heap.size
theorem th_gro {W W' : World} {v v' : Value} {g n : Nat} (h : There W g n) (hG : Gro W W' v v') (hg : g < W.heap.size) (hne : v.ownBlock ≠ some g) : There W' g n := fun j hj => by
  have hq := hG.grown.block g hg (fun e => hne e.symm)
  obtain ⟨h1, h2⟩ := h j hj
  exact ⟨by rw [World.cell?_of_block (w := W) hq]; exact h1, by rw [World.frozen?_of_block (w := W) hq]; exact h2⟩
theorem JB.gro {W W' : World} {v' : Value} {g : Nat} {a b c x y z : Int} (h : JB g W a b c x y z) (hG : Gro W W' (.slice none 0 0) v') : JB g W' a b c x y z :=
  ⟨⟨hG.cell h.1.1 Gro.none_ne, hG.cell h.1.2.1 Gro.none_ne, hG.cell h.1.2.2 Gro.none_ne⟩, ⟨hG.cell h.2.1.1 Gro.none_ne, hG.cell h.2.1.2.1 Gro.none_ne, hG.cell h.2.1.2.2 Gro.none_ne⟩, th_gro h.2.2.1 hG h.2.2.2 Gro.none_ne, Nat.lt_of_lt_of_le h.2.2.2 hG.size⟩
theorem JB.new {w : World} {ao bo : Option Addr} {n cap m cp : Nat} {a b c x y z : Int} {t : TypeId} : JB w.heap.size (((w.alloc (.cells #[.slice ao n cap, .int .i64 a, .int .i64 b, .int .i64 c] t)).alloc (.cells #[.slice bo m cp, .int .i64 x, .int .i64 y, .int .i64 z] t)).alloc (.cells #[.slice none 0 0, .int .i64 0, .int .i64 0, .int .i64 0] t)) a b c x y z := by
  refine ⟨⟨by go_simp, by go_simp, by go_simp⟩, ⟨by go_simp, by go_simp, by go_simp⟩, fun j hj => ?_, by simp⟩
  have hj' : j = 0 ∨ j = 1 ∨ j = 2 ∨ j = 3 := by omega
  rcases hj' with rfl | rfl | rfl | rfl <;> exact ⟨by go_simp, by go_simp⟩

theorem nb {W0 wr : World} {v : Value} {k : Nat} (hG : Gro W0 wr (.slice none 0 0) v) (h : k < W0.heap.size) : v.ownBlock ≠ some k := fun e => by
  rcases hG.fresh k e with h' | h'
  · simp [Value.ownBlock] at h'
  · omega
theorem row_ne {W0 wr : World} {v : Value} {ro : Option Addr} {l : List Sib} (hG : Hid (Gro W0 wr (.slice none 0 0) v)) (hR : Hid (SibRow W0 ro l)) : ∀ x, ro = some x → l ≠ [] → v.ownBlock ≠ some x.block := fun q hq hl => by
  rcases hR.out with h | ⟨b, off, h, h2⟩
  · exact absurd h hl
  · rw [hq] at h
    cases h
    have hp : 0 < l.length := List.length_pos_iff.2 hl
    exact nb hG.out (cell_lt (x := ⟨b, off + 0 * 4, none⟩) (h2 0 hp).1)
theorem Gro.set1 {w W : World} {v : Value} {b o : Nat} {u : Value} (h : Gro w W (.slice none 0 0) v) (hb : w.heap.size ≤ b) : Gro w (W.setCell ⟨b, o, none⟩ u) (.slice none 0 0) v :=
  ⟨⟨by simpa [World.setCell] using h.grown.os, by simpa [World.setCell] using h.grown.tape, by simpa [World.setCell] using h.grown.output, by simpa [World.setCell] using h.grown.size, fun k hk hne => (Below.heap_setCell W ⟨b, o, none⟩ u k (fun e => by simp at e; omega)).trans (h.grown.block k hk hne)⟩, h.fresh⟩
theorem Gro.set4 {w W : World} {v : Value} {b o1 o2 o3 o4 : Nat} {u1 u2 u3 u4 : Value} (h : Gro w W (.slice none 0 0) v) (hb : w.heap.size ≤ b) : Gro w ((((W.setCell ⟨b, o1, none⟩ u1).setCell ⟨b, o2, none⟩ u2).setCell ⟨b, o3, none⟩ u3).setCell ⟨b, o4, none⟩ u4) (.slice none 0 0) v := (((h.set1 hb).set1 hb).set1 hb).set1 hb
theorem one_node {l : List Sib} {i : Nat} (h : Hid (∀ i (h : i < l.length), 0 ≤ l[i].p ∧ l[i].p < 3)) (hi : i < l.length) : ∀ k (hk : k < [l[i]].length), 0 ≤ ([l[i]])[k].p ∧ ([l[i]])[k].p < 3 := fun k hk => by
  have : k = 0 := by simpa using hk
  subst this
  exact h.out i hi
theorem lit_row {W : World} {x : Sib} {t : TypeId} : SibRow (W.alloc (.cells #[.int .i64 x.p, .int .i64 x.n, .int .i64 x.v, .bool x.d] t)) (some ⟨W.heap.size, 0, none⟩) [x] := .inr ⟨W.heap.size, 0, rfl, fun i hi => by
  have : i = 0 := by simpa using hi
  subst this
  simpa using (lit_at (W := W) (x := x) (t := t))⟩
theorem lit_ne {W : World} {v : Value} {n e : Nat} {xs : List Value} {l : List Sib} (h : Hid (W.ownsRow 0 e 4 v n xs)) : ∀ q, some (⟨W.heap.size, 0, none⟩ : Addr) = some q → l ≠ [] → v.ownBlock ≠ some q.block := fun q hq _ e => by
  cases hq
  exact Nat.lt_irrefl _ (h.out.lt _ e).2
theorem row_tail {W : World} {rb rof j : Nat} {l2 : List Sib} (h : SibRow W (some ⟨rb, rof, none⟩) (l2.drop j)) : SibRow W (some ⟨rb, rof + 4, none⟩) (l2.drop (j + 1)) := by
  rcases h with h | ⟨b, off, e, h2⟩
  · refine .inl ?_
    rw [List.drop_eq_nil_iff] at h ⊢
    omega
  · cases e
    refine .inr ⟨rb, rof + 4, rfl, fun i hi => ?_⟩
    have := h2 (i + 1) (by simp at hi ⊢; omega)
    simp only [List.getElem_drop] at this ⊢
    have e1 : rof + (i + 1) * 4 = rof + 4 + i * 4 := by omega
    have e2 : j + (i + 1) = j + 1 + i := by omega
    simp only [e1, e2] at this
    exact this
theorem dot_ne {p n q m : Int} (h : ¬ (p = q ∧ n = m)) : (p == q && n == m) = false := by
  rw [Bool.eq_false_iff]
  intro h'
  simp at h'
  exact h h'
theorem dot_eq {p n q m : Int} (h : p = q ∧ n = m) : (p == q && n == m) = true := by simp [h.1, h.2]
theorem lit_row1 {W : World} {o : Obj} {x : Sib} {t : TypeId} : SibRow ((W.alloc o).alloc (.cells #[.int .i64 x.p, .int .i64 x.n, .int .i64 x.v, .bool x.d] t)) (some ⟨W.heap.size + 1, 0, none⟩) [x] := by
  have := lit_row (W := W.alloc o) (x := x) (t := t)
  simpa using this
theorem lit_at1 {W : World} {o : Obj} {x : Sib} {t : TypeId} : SibAt ((W.alloc o).alloc (.cells #[.int .i64 x.p, .int .i64 x.n, .int .i64 x.v, .bool x.d] t)) (W.heap.size + 1) 0 x := by
  have := lit_at (W := W.alloc o) (x := x) (t := t)
  simpa using this
theorem lit_ne1 {W : World} {v : Value} {n e : Nat} {xs : List Value} {l : List Sib} (h : Hid (W.ownsRow 0 e 4 v n xs)) : ∀ q, some (⟨W.heap.size + 1, 0, none⟩ : Addr) = some q → l ≠ [] → v.ownBlock ≠ some q.block := fun q hq _ e => by
  cases hq
  have := (h.out.lt _ e).2
  simp at this
  omega
theorem row_none {W : World} {ro : Option Addr} {j : Nat} {l2 : List Sib} (h : l2.length ≤ j) : SibRow W ro (l2.drop j) := .inl (List.drop_eq_nil_iff.2 h)
theorem own_slice {w : World} {base e size n : Nat} {v : Value} {xs : List Value} (h : w.ownsRow base e size v n xs) : ∃ o k c, v = .slice o k c := by
  rcases h.2 with ⟨rfl, _⟩ | ⟨g, cap, cur, rfl, _⟩
  · exact ⟨_, _, _, rfl⟩
  · exact ⟨_, _, _, rfl⟩

/-- What the loops keep. -/
def JI (W0 wr : World) (a b c x y z : Int) (l l2 : List Sib) (i j : Nat) (m : List Sib) (ro : Option Addr) (rc n : Nat) (v r : Value) : Prop :=
  i ≤ l.length ∧ j + n = l2.length ∧ r = .slice ro n rc ∧ n ≤ rc ∧ SibRow W0 ro (l2.drop j) ∧ Gro W0 wr (.slice none 0 0) v ∧ wr.ownsRow 0 62 4 v m.length (flat m) ∧ m ++ jn a b c x y z (l.drop i) (l2.drop j) = jn a b c x y z l l2 ∧ m.length ≤ i + j
end Go.Proofs.YtgnacdhceiapkaaDoor

/- Rows of siblings that a call itself has made. -/
import Derived.Test.YtcmniplbiliobaaDoorRows
import Derived.WalkKit
import Derived.WalkSpells
import Derived.WalkLawsBesides
import Derived.Deep.QuietTactic
import Derived.BigQuiet
import Derived.Deep.RegionHeld3
import Derived.Test.YtcmniplbiliobaaDoorSb
import Derived.OwnWalk
import Derived.Laws.OwnMore
namespace Go.Proofs.YtcmniplbiliobaaDoor
open Go.RowKit
set_option linter.unusedSimpArgs false
set_option linter.unusedVariables false

def sibVals (s : Sib) : List Value := [.int .i64 s.p, .int .i64 s.n, .int .i64 s.v, .bool s.d]
def flat : List Sib → List Value
  | [] => []
  | s :: l => .int .i64 s.p :: .int .i64 s.n :: .int .i64 s.v :: .bool s.d :: flat l
theorem flat_length (l : List Sib) : (flat l).length = l.length * 4 := by
  induction l with
  | nil => rfl
  | cons s l ih => simp [flat, ih]; omega
theorem flat_append (l m : List Sib) : flat (l ++ m) = flat l ++ flat m := by
  induction l with
  | nil => rfl
  | cons s l ih => simp [flat, ih]
theorem flat_one (l : List Sib) : ∀ u ∈ flat l, u.oneCell' = true := by
  induction l with
  | nil => intro u hu; simp [flat] at hu
  | cons s l ih =>
    intro u hu
    simp only [flat, List.mem_cons] at hu
    rcases hu with rfl | rfl | rfl | rfl | hu
    · rfl
    · rfl
    · rfl
    · rfl
    · exact ih u hu
theorem flat_at (l : List Sib) : ∀ i (h : i < l.length), (flat l)[i * 4]? = some (.int .i64 l[i].p) ∧ (flat l)[i * 4 + 1]? = some (.int .i64 l[i].n) ∧ (flat l)[i * 4 + 2]? = some (.int .i64 l[i].v) ∧ (flat l)[i * 4 + 3]? = some (.bool l[i].d) := by
  induction l with
  | nil => intro i h; simp at h
  | cons s l ih =>
    intro i h
    cases i with
    | zero => simp [flat]
    | succ i =>
      have := ih i (by simpa using h)
      have e : (i + 1) * 4 = i * 4 + 4 := by omega
      rw [e]
      simpa [flat] using this
theorem flat_cells {w : World} {b off : Nat} : ∀ {l : List Sib} {o : Nat}, o = off → (∀ i (h : i < l.length), SibAt w b (o + i * 4) l[i]) → ∀ j u, (flat l)[j]? = some u → w.cell? ⟨b, o + j, none⟩ = some u := by
  intro l o ho h j u hu
  have hj : j < (flat l).length := by
    rcases Nat.lt_or_ge j (flat l).length with q | q
    · exact q
    · rw [List.getElem?_eq_none q] at hu; cases hu
  rw [flat_length] at hj
  have hi : j / 4 < l.length := by omega
  obtain ⟨a0, a1, a2, a3⟩ := h (j / 4) hi
  obtain ⟨f0, f1, f2, f3⟩ := flat_at l (j / 4) hi
  have cs : j = j / 4 * 4 ∨ j = j / 4 * 4 + 1 ∨ j = j / 4 * 4 + 2 ∨ j = j / 4 * 4 + 3 := by omega
  generalize j / 4 = i at *
  rcases cs with rfl | rfl | rfl | rfl
  · rw [f0] at hu; cases hu; exact a0
  · rw [f1] at hu; cases hu; exact a1
  · rw [f2] at hu; cases hu; exact a2
  · rw [f3] at hu; cases hu; exact a3
/-- What is owned is a row of siblings. -/
theorem owned_row {w : World} {base e : Nat} {v : Value} {l : List Sib} (h : w.ownsRow base e 4 v l.length (flat l)) : ∃ ao cap, v = .slice ao l.length cap ∧ SibRow w ao l ∧ ∀ x, ao = some x → base ≤ x.block ∧ x.block < w.heap.size := by
  have hq := h.2
  rcases hq with ⟨rfl, hn⟩ | ⟨g, cap, cur, rfl, hb, hh, hnc, hm, hs, ht⟩
  · exact ⟨none, 0, by rw [hn], Or.inl (List.length_eq_zero_iff.1 hn), fun x hx => by cases hx⟩
  · refine ⟨some ⟨g, 0, none⟩, cap, rfl, Or.inr ⟨g, 0, rfl, fun i hi => ?_⟩, fun x hx => ?_⟩
    · obtain ⟨f0, f1, f2, f3⟩ := flat_at l i hi
      refine ⟨?_, ?_, ?_, ?_⟩
      · rw [h.cellAt _ (by omega)]; simpa using f0
      · rw [h.cellAt _ (by omega)]; simpa using f1
      · rw [h.cellAt _ (by omega)]; simpa using f2
      · rw [h.cellAt _ (by omega)]; simpa using f3
    · cases hx
      exact ⟨hb, by
        rcases Nat.lt_or_ge g w.heap.size with h' | h'
        · exact h'
        · rw [Array.getElem?_eq_none h'] at hh; cases hh⟩

end Go.Proofs.YtcmniplbiliobaaDoor

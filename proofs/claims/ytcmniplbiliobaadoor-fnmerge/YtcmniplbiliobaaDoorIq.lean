/- Rows of numbers. -/
import Derived.Test.YtcmniplbiliobaaDoorRows
import Derived.WalkKit
import Derived.Test.YtcmniplbiliobaaDoorLv
import Derived.WalkSpells
import Derived.WalkLawsBesides
import Derived.Deep.QuietTactic
import Derived.BigQuiet
import Derived.Deep.RegionHeld3
import Derived.Test.YtcmniplbiliobaaDoorMl
import Derived.Test.YtcmniplbiliobaaDoorMk
import Derived.LoopN
namespace Go.Proofs.YtcmniplbiliobaaDoor
open Go.RowKit
set_option linter.unusedSimpArgs false
set_option linter.unusedVariables false
theorem own_isl {w : World} {base e size n : Nat} {v : Value} {xs : List Value} (h : w.ownsRow base e size v n xs) : ∃ ao cap, v = .slice ao n cap := by
  rcases h.2 with ⟨rfl, hn⟩ | ⟨g, cap, cur, rfl, _⟩
  · exact ⟨none, 0, by rw [hn]⟩
  · exact ⟨_, cap, rfl⟩
def IntRow (W : World) (ao : Option Addr) (zs : List Int) : Prop := zs = [] ∨ ∃ b off, ao = some ⟨b, off, none⟩ ∧ ∀ i (h : i < zs.length), W.cell? ⟨b, off + i, none⟩ = some (.int .i64 zs[i])
theorem owned_ints {w : World} {ao : Option Addr} {n cap : Nat} {zs : List Int} (h : w.ownsRow 0 3 1 (.slice ao n cap) n (zs.map (Value.int .i64))) (hn : n = zs.length) : IntRow w ao zs := by
  subst hn
  rcases h.2 with ⟨h', hz⟩ | ⟨g, cap', cur, h', _⟩
  · exact .inl (List.length_eq_zero_iff.1 hz)
  · cases h'
    refine .inr ⟨g, 0, rfl, fun i hi => ?_⟩
    rw [Nat.zero_add, h.cellAt i (by omega)]
    simp [hi]
def seqI (k : Int) (n : Nat) : List Value := (List.range n).map fun (i : Nat) => Value.int .i64 (k + (i : Int))
theorem seqI_len (k : Int) (n : Nat) : (seqI k n).length = n := by simp [seqI]
theorem seqI_at (k : Int) (n i : Nat) (h : i < n) : (seqI k n)[i]? = some (.int .i64 (k + i)) := by simp [seqI, h]
theorem seqI_succ (k : Int) (n : Nat) : seqI k (n + 1) = seqI k n ++ [.int .i64 (k + n)] := by simp [seqI, List.range_succ]
theorem seqI_set (k : Int) (j : Nat) (xs : List Value) (h : j < xs.length) : (seqI k j ++ xs.drop j).set j (.int .i64 (k + j)) = seqI k (j + 1) ++ xs.drop (j + 1) := by
  rw [List.set_append_right _ _ (by rw [seqI_len]; exact Nat.le_refl _), seqI_len, Nat.sub_self, seqI_succ, List.append_assoc, List.drop_eq_getElem_cons h]
  rfl
end Go.Proofs.YtcmniplbiliobaaDoor

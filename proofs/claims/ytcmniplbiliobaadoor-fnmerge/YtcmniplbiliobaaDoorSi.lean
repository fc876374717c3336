/- Rows of numbers that are alike are told so. -/
import Derived.Test.YtcmniplbiliobaaDoorRows
import Derived.WalkKit
import Derived.WalkSpells
import Derived.WalkLawsBesides
import Derived.Deep.QuietTactic
import Derived.BigQuiet
import Derived.Deep.RegionHeld3
import Derived.Test.YtcmniplbiliobaaDoorLv
import Derived.LoopN
namespace Go.Proofs.YtcmniplbiliobaaDoor
open Go.RowKit
set_option linter.unusedSimpArgs false
set_option linter.unusedVariables false

/-- A row of numbers. -/
def IRow (W : World) (ao : Option Addr) (xs : List Int) : Prop := xs = [] ∨ ∃ b off, ao = some ⟨b, off, none⟩ ∧ ∀ i (h : i < xs.length), W.cell? ⟨b, off + i, none⟩ = some (.int .i64 xs[i])
theorem IRow.next {W W' : World} {ao : Option Addr} {xs : List Int} (h : IRow W ao xs) (hb : Below W.heap.size W W') : IRow W' ao xs := by
  rcases h with h | ⟨b, off, rfl, h2⟩
  · exact .inl h
  · exact .inr ⟨b, off, rfl, fun i hi => cell_next hb (h2 i hi) (cell_lt (h2 i hi))⟩
theorem own_irow {W : World} {v : Value} {xs : List Int} (h : W.ownsRow 0 3 1 v xs.length (xs.map (Value.int .i64))) : ∃ ao cap, v = .slice ao xs.length cap ∧ IRow W ao xs := by
  rcases h.2 with ⟨rfl, hn⟩ | ⟨g, cap, cur, rfl, hb, hh, hnc, hm, hs, ht⟩
  · exact ⟨none, 0, by rw [hn], .inl (List.length_eq_zero_iff.1 hn)⟩
  · refine ⟨some ⟨g, 0, none⟩, cap, rfl, .inr ⟨g, 0, rfl, fun i hi => ?_⟩⟩
    rw [h.cellAt _ (by omega)]
    simp [hi]
set_option maxHeartbeats 1000000 in
theorem sameInts_any (cap cp : Nat) (ao bo : Option Addr) (xs : List Int) (w : World) (hm : (xs.length : Int) ≤ 1048576) (ha0 : IRow w ao xs) (hb0 : IRow w bo xs) :
    Calls Tryd.prog 17 #[.slice ao xs.length cap, .slice bo xs.length cp] w fun e w' => e = .returned (.bool true) ∧ Below w.heap.size w w' := by
  have HA : Hid (IRow w ao xs) := ha0
  have HB : Hid (IRow w bo xs) := hb0
  clear ha0 hb0
  go_enter Tryd.func17, Tryd.ntmps17
  go_wp2
  go_loopw [5] (fun s5 wr => ∃ i : Nat, i ≤ xs.length ∧ s5 = .int .i64 i ∧ Below w.heap.size w wr) (fun s5 _ => xs.length - (intOf s5).toNat)
  case atStart => exact ⟨0, by omega, rfl, Below.refl _ _⟩
  case round =>
    obtain ⟨i, hi, rfl, hw0⟩ := hrel
    have HW : Hid (Below w.heap.size w wr) := hw0
    clear hw0
    by_cases hlt : i < xs.length
    · have hlt' : (i : Int) < (xs.length : Int) := by omega
      have kk : (0 : Int) ≤ (i : Int) := by omega
      rcases HA.out.next HW.out with h' | ⟨b, off, rfl, h1⟩
      · rw [h'] at hlt; simp at hlt
      rcases HB.out.next HW.out with h' | ⟨b', off', rfl, h2⟩
      · rw [h'] at hlt; simp at hlt
      have e1 := h1 i hlt
      have e2 := h2 i hlt
      clear h1 h2
      obtain ⟨x, hx⟩ : ∃ x, xs[i] = x := ⟨_, rfl⟩
      rw [hx] at e1 e2
      clear hx
      go_wp2
      go_quiet (fail)
      go_wp2
      go_roundw
      case rel => exact ⟨i + 1, by omega, by go_num, below_drewN HW.out _⟩
      case measure => simp [intOf]; omega
    · have hlt' : ¬ (i : Int) < (xs.length : Int) := by omega
      go_wp2
      go_ret
      exact ⟨rfl, HW.out⟩
end Go.Proofs.YtcmniplbiliobaaDoor

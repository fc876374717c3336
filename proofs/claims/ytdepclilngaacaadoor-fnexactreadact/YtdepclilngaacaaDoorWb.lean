/- A last word that says that an act is blind. -/
import Derived.Test.YtdepclilngaacaaDoorRows
import Derived.WalkKit
import Derived.WalkSpells
import Derived.WalkLawsBesides
import Derived.Deep.QuietTactic
import Derived.BigQuiet
import Derived.Deep.RegionHeld3
import Derived.Test.YtdepclilngaacaaDoorWw
import Derived.Test.YtdepclilngaacaaDoorGk
import Derived.LoopN
namespace Go.Proofs.YtdepclilngaacaaDoor
open Go.RowKit
set_option linter.unusedSimpArgs false
set_option linter.unusedVariables false

def isBl (s : ByteArray) : Bool := s.toList == [98, 108, 105, 110, 100]
/-- The words without the last one, if it says that the act is blind. -/
def strip (k : Nat) (ws : List ByteArray) : List ByteArray × Bool := if (k = 1 ∨ k = 2) ∧ ∃ s, ws.getLast? = some s ∧ isBl s = true then (ws.dropLast, true) else (ws, false)
theorem strip_kind {k : Nat} {ws : List ByteArray} (h1 : k ≠ 1) (h2 : k ≠ 2) : strip k ws = (ws, false) := by unfold strip; rw [if_neg (by rintro ⟨h | h, _⟩; exact h1 h; exact h2 h)]
theorem strip_nil {k : Nat} : strip k [] = ([], false) := by unfold strip; rw [if_neg (by rintro ⟨_, s, h, _⟩; simp at h)]
theorem strip_no {k : Nat} {ws : List ByteArray} {s : ByteArray} (h : ws.getLast? = some s) (hb : isBl s = false) : strip k ws = (ws, false) := by unfold strip; rw [if_neg (by rintro ⟨_, s', h', hb'⟩; rw [h] at h'; cases h'; rw [hb] at hb'; cases hb')]
theorem strip_yes {k : Nat} {ws : List ByteArray} {s : ByteArray} (hk : k = 1 ∨ k = 2) (h : ws.getLast? = some s) (hb : isBl s = true) : strip k ws = (ws.dropLast, true) := by unfold strip; rw [if_pos ⟨hk, s, h, hb⟩]
theorem strip_sub {k : Nat} {ws : List ByteArray} : ∃ j, (strip k ws).1 = ws.take j := by
  unfold strip
  split
  · exact ⟨ws.length - 1, by rw [List.dropLast_eq_take]⟩
  · exact ⟨ws.length, by rw [List.take_length]⟩
def WbA (k : Nat) (ws : List ByteArray) (p : Option Addr) (w : World) (e : Ending) (w' : World) : Prop := ∃ q', e = .returned (.tuple #[.slice p (strip k ws).1.length q', .bool (strip k ws).2]) ∧ (strip k ws).1.length ≤ q' ∧ w' = w
theorem WbA.no {k : Nat} {ws : List ByteArray} {p : Option Addr} {w : World} {n q : Nat} (h : strip k ws = (ws, false)) (hn : n = ws.length) (hq : n ≤ q) : WbA k ws p w (.returned (.tuple #[.slice p n q, .bool false])) w := ⟨q, by rw [h, hn], by rw [h]; show ws.length ≤ q; omega, rfl⟩
theorem last_at {ws : List ByteArray} {m : Nat} (h : m + 1 = ws.length) : ∃ s, ws.getLast? = some s ∧ ws[m]? = some s := by
  have hne : ws ≠ [] := fun e => by rw [e] at h; simp at h
  refine ⟨ws.getLast hne, List.getLast?_eq_some_getLast hne, ?_⟩
  rw [List.getLast_eq_getElem, List.getElem?_eq_getElem (by omega)]
  congr 1
  congr 1
  omega
theorem grow_txt {lo : Nat} {w : World} {p : Option Addr} {ws : List ByteArray} {i : Nat} {s : ByteArray} (h : GRow lo w p (txB ws)) (hi : ws[i]? = some s) : ∃ b off, p = some ⟨b, off, none⟩ ∧ lo ≤ b ∧ w.cell? ⟨b, off + i, none⟩ = some (.string s) := by
  have hs : (txB ws)[i]? = some (.string s) := by simp [txB, hi]
  obtain ⟨hl, _⟩ := List.getElem?_eq_some_iff.1 hs
  rcases h with h' | ⟨b, off, rfl, hb, hc⟩
  · rw [h'] at hl; simp at hl
  · exact ⟨b, off, rfl, hb, GRow.at (lo := lo) hc hs⟩
set_option maxHeartbeats 4000000 in
theorem blind_any (lo k : Nat) (ws : List ByteArray) (n : Nat) (hn0 : n = ws.length) (p : Option Addr) (q : Nat) (w : World) (hr0 : GRow lo w p (txB ws)) (hq : n ≤ q) (hs : n ≤ 65536) :
    Calls Tryd.prog 10 #[.int .i64 (k : Int), .slice p n q] w (WbA k ws p w) := by
  have hr : Hid (GRow lo w p (txB ws)) := hr0
  have hn : Hid (n = ws.length) := hn0
  clear hr0 hn0
  by_cases h1 : k = 1 ∨ k = 2
  · rcases Nat.eq_zero_or_pos n with e | e
    · subst e
      have HW : Hid (strip k ws = (ws, false)) := by
        have : ws = [] := List.length_eq_zero_iff.1 hn.out.symm
        show _ = _
        rw [this, strip_nil]
      rcases h1 with rfl | rfl
      all_goals
        go_enter Tryd.func10, Tryd.ntmps10
        go_wp2
        go_ret2
        exact WbA.no HW.out hn.out hq
    · obtain ⟨m, rfl⟩ : ∃ m, n = m + 1 := ⟨n - 1, by omega⟩
      obtain ⟨s, hl, hm⟩ := last_at hn.out
      obtain ⟨b, off, rfl, _, hc⟩ := grow_txt hr.out hm
      have hd : (((m + 1 : Nat) : Int)) - 1 = (m : Int) := by omega
      have hd2 : (m : Int) + 1 - 1 = (m : Int) := by omega
      have hw1 : IntKind.i64.wrap (m : Int) = (m : Int) := by rw [IntKind.wrap_i64]; omega
      have m0 : ¬ (m : Int) < 0 := by omega
      have m1 : (m : Int) < ((m + 1 : Nat) : Int) := by omega
      have m2 : (m : Int) < (m : Int) + 1 := by omega
      have m3 : (0 : Int) ≤ (m : Int) := by omega
      have mq : (m : Int) ≤ (q : Int) := by omega
      cases hb : isBl s
      · have HW : Hid (strip k ws = (ws, false)) := strip_no hl hb
        have hb1 : (s.toList == [98, 108, 105, 110, 100]) = false := hb
        have hb2 : (s.toList != [98, 108, 105, 110, 100]) = true := by rw [bne, hb1]; rfl
        clear hr hl hm hb
        rcases h1 with rfl | rfl
        all_goals
          go_enter Tryd.func10, Tryd.ntmps10
          go_wp2
          go_ret2
          exact WbA.no HW.out hn.out hq
      · have HW : Hid (strip k ws = (ws.dropLast, true)) := strip_yes h1 hl hb
        have hb1 : (s.toList == [98, 108, 105, 110, 100]) = true := hb
        have hb2 : (s.toList != [98, 108, 105, 110, 100]) = false := by rw [bne, hb1]; rfl
        clear hr hl hm hb
        rcases h1 with rfl | rfl
        all_goals
          go_enter Tryd.func10, Tryd.ntmps10
          go_wp2
          go_ret2
          exact ⟨_, by rw [HW.out]; simp only [List.length_dropLast, ← hn.out]; rfl, by rw [HW.out]; simp only [List.length_dropLast, ← hn.out]; omega, rfl⟩
  · have a1 : k ≠ 1 := fun h => h1 (.inl h)
    have a2 : k ≠ 2 := fun h => h1 (.inr h)
    have HW : Hid (strip k ws = (ws, false)) := strip_kind a1 a2
    have b1 : ((k : Int) != 1) = true := by simp; omega
    have b2 : ((k : Int) != 2) = true := by simp; omega
    clear h1 a1 a2
    go_enter Tryd.func10, Tryd.ntmps10
    go_wp2
    go_ret2
    exact WbA.no HW.out hn.out hq
end Go.Proofs.YtdepclilngaacaaDoor

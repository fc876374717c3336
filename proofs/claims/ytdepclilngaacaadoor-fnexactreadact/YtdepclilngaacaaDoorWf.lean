/- The program's words of a text, by the library's FieldsFunc; both sides' words as rows that are read. -/
import Derived.Test.YtdepclilngaacaaDoorRows
import Derived.WalkKit
import Derived.WalkSpells
import Derived.WalkLawsBesides
import Derived.Deep.QuietTactic
import Derived.BigQuiet
import Derived.Deep.RegionHeld3
import Derived.Test.YtdepclilngaacaaDoorWw
import Derived.Test.YtdepclilngaacaaDoorFf
import Derived.LoopN
namespace Go.Proofs.YtdepclilngaacaaDoor
open Go.RowKit
set_option linter.unusedSimpArgs false
set_option linter.unusedVariables false

open Go.Shelf Go.Lib
/-- What both sides answer: the words as a row that is read. -/
def WsG (s : ByteArray) (w : World) (e : Ending) (w' : World) : Prop := ∃ p q, e = .returned (.slice p (wordsB s).length q) ∧ (wordsB s).length ≤ q ∧ GRow w.heap.size w' p (txB (wordsB s)) ∧ Below w.heap.size w w'
theorem spWords (s : ByteArray) (w : World) (hs : s.size ≤ 65536) : Calls Tryd.prog 13 #[.string s] w (WsG s w) := by
  refine (spWords_any s w hs).mono ?_
  rintro e w' ⟨p, q, rfl, hO, hb⟩
  obtain ⟨p2, c2, hv, hc, hG⟩ := hO.grow
  cases hv
  exact ⟨p, q, rfl, hc, hG, hb⟩
theorem blank_at (w : World) : PredAtRunes Tryd.prog 19 #[] blankR w := by
  intro W x hx _
  show Calls Tryd.prog 19 #[.int .i32 (x : Int)] W fun e w' => e = .returned (.bool (blankR x)) ∧ ∃ q, w' = W.drewN q
  by_cases h : x = 32
  · subst h
    go_enter Tryd.func19, Tryd.ntmps19
    go_wp2
    go_ret
    exact ⟨rfl, 0, rfl⟩
  · have h' : ((x : Int) == 32) = false := by simp; omega
    have HB : Hid (blankR x = false) := (by show _ = _; simp [blankR, h])
    clear h
    go_enter Tryd.func19, Tryd.ntmps19
    go_wp2
    go_ret
    exact ⟨ret_bool HB.out.symm, 0, rfl⟩
theorem implWords (s : ByteArray) (w : World) (hs : s.size ≤ 65536) : Calls Tryd.prog 8 #[.string s] w (WsG s w) := by
  have HC := Any.strings_FieldsFunc_runes Tryd.lays229 19 #[] (fun args w => by rfl) blankR s w (by omega) (blank_at w) (by kernel_rfl) (by kernel_rfl)
  rw [fields_words] at HC
  have H : Hid _ := HC
  clear HC
  go_enter Tryd.func8, Tryd.ntmps8
  go_wp2_with fail
  refine Calls.mono H.out ?_
  rintro e w1 ⟨a, rfl, ha, hO, hb⟩
  have HO : Hid (WsG s w (.returned (.slice (some ⟨a, 0, none⟩) (wordsB s).length (wordsB s).length)) w1) := by
    obtain ⟨p2, c2, hv, hc, hG⟩ := own_grow (own_base (base' := 0) hO (fun k hk => Nat.zero_le _)) (lo := w.heap.size) (fun k hk => by cases hk; exact ha)
    cases hv
    exact ⟨_, _, rfl, hc, hG, hb⟩
  clear hO hb ha H
  go_wp2
  go_ret
  exact HO.out
end Go.Proofs.YtdepclilngaacaaDoor

/- The law of OpenLine. -/
import Derived.Test.YtadebbjlbnpbnaaDoorRows
import Derived.WalkKit
import Derived.WalkSpells
import Derived.WalkLawsBesides
import Derived.Deep.QuietTactic
import Derived.BigQuiet
import Derived.Deep.RegionHeld3
import Derived.Test.YtadebbjlbnpbnaaDoorOi
namespace Go.Proofs.YtadebbjlbnpbnaaDoor
open Go.RowKit
set_option linter.unusedSimpArgs false
set_option linter.unusedVariables false

/-- What OpenLine tells. -/
def olS (s : ByteArray) : ByteArray := if s.size ≤ 65536 then (openO s).getD ⟨#[]⟩ else ⟨#[]⟩
def olC (s : ByteArray) : Int := if s.size ≤ 65536 then (if (openO s).isSome then 0 else 14) else 2

theorem implOL_any (s : ByteArray) (w : World) (hs : s.size ≤ 1048576) (ht : Hid (TB w)) (hm : Hid (MX w)) :
    Calls Tryd.prog 17 #[.string s] w fun e w' => e = .returned (.tuple #[.string (olS s), .int .i64 (olC s)]) ∧ Below w.heap.size w w' := by
  by_cases h : s.size ≤ 65536
  · have h' : ¬ (65536 : Int) < (s.size : Int) := by omega
    have HS : Hid (olS s = (openO s).getD ⟨#[]⟩ ∧ olC s = if (openO s).isSome then 0 else 14) := ⟨by unfold olS; rw [if_pos h], by unfold olC; rw [if_pos h]⟩
    go_enter Tryd.func17, Tryd.ntmps17
    go_wp2_with fail
    refine (implOpen_any s _ (by omega) ht.out hm.out).mono ?_
    rintro e w1 ⟨t, r, rfl, hb, h0, h1⟩
    have HB : Hid (Below w.heap.size w w1) := hb
    have H0 : Hid (r = false → openO s = none) := h0
    have H1 : Hid (r = true → openO s = some t) := h1
    clear hb h0 h1
    cases r with
    | false =>
      have H9 : Hid (openO s = none) := H0.out rfl
      go_wp2
      go_ret2
      refine ⟨ret2 ?_ ?_, HB.out⟩
      · rw [HS.out.1, H9.out]; rfl
      · rw [HS.out.2, H9.out]; rfl
    | true =>
      have H9 : Hid (openO s = some t) := H1.out rfl
      go_wp2
      go_ret2
      refine ⟨ret2 ?_ ?_, HB.out⟩
      · rw [HS.out.1, H9.out]; rfl
      · rw [HS.out.2, H9.out]; rfl
  · have h' : (65536 : Int) < (s.size : Int) := by omega
    have HS : Hid (olS s = ⟨#[]⟩ ∧ olC s = 2) := ⟨by unfold olS; rw [if_neg h], by unfold olC; rw [if_neg h]⟩
    go_enter Tryd.func17, Tryd.ntmps17
    go_wp2
    go_ret2
    exact ⟨ret2 HS.out.1.symm HS.out.2.symm, Below.refl _ _⟩
end Go.Proofs.YtadebbjlbnpbnaaDoor

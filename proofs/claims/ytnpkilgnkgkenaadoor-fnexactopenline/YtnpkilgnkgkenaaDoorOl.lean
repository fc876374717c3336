/- The law of OpenLine. -/
import Derived.Test.YtnpkilgnkgkenaaDoorRows
import Derived.WalkKit
import Derived.WalkSpells
import Derived.WalkLawsBesides
import Derived.Deep.QuietTactic
import Derived.BigQuiet
import Derived.Deep.RegionHeld3
import Derived.Test.YtnpkilgnkgkenaaDoorOi
namespace Go.Proofs.YtnpkilgnkgkenaaDoor
open Go.RowKit
set_option linter.unusedSimpArgs false
set_option linter.unusedVariables false

/-- What OpenLine tells. -/
def olS (s : ByteArray) : ByteArray := if s.size ≤ 65536 then (openO s).getD ⟨#[]⟩ else ⟨#[]⟩
def olC (s : ByteArray) : Int := if s.size ≤ 65536 then (if (openO s).isSome then 0 else 14) else 2

theorem specOL_any (s : ByteArray) (w : World) (hs : s.size ≤ 1048576) :
    Calls Tryd.prog 9 #[.string s] w fun e w' => e = .returned (.tuple #[.string (olS s), .int .i64 (olC s)]) ∧ Below w.heap.size w w' := by
  by_cases h : s.size ≤ 65536
  · have h' : ¬ (65536 : Int) < (s.size : Int) := by omega
    have HS : Hid (olS s = (openO s).getD ⟨#[]⟩ ∧ olC s = if (openO s).isSome then 0 else 14) := ⟨by unfold olS; rw [if_pos h], by unfold olC; rw [if_pos h]⟩
    go_enter Tryd.func9, Tryd.ntmps9
    go_wp2_with fail
    refine (specOpen_any s _ (by omega)).mono ?_
    rintro e w1 ⟨t, r, rfl, hb, h0, h1⟩
    have HB : Hid (Below w.heap.size w w1) := hb
    have H0 : Hid (r = false → openO s = none) := h0
    have H1 : Hid (r = true → openO s = some t) := h1
    clear hb h0 h1
    cases r with
    | false =>
      have H9 : Hid (openO s = none) := H0.out rfl
      go_wp2
      go_ret2
      refine ⟨ret2 ?_ ?_, HB.out⟩
      · rw [HS.out.1, H9.out]; rfl
      · rw [HS.out.2, H9.out]; rfl
    | true =>
      have H9 : Hid (openO s = some t) := H1.out rfl
      go_wp2
      go_ret2
      refine ⟨ret2 ?_ ?_, HB.out⟩
      · rw [HS.out.1, H9.out]; rfl
      · rw [HS.out.2, H9.out]; rfl
  · have h' : (65536 : Int) < (s.size : Int) := by omega
    have HS : Hid (olS s = ⟨#[]⟩ ∧ olC s = 2) := ⟨by unfold olS; rw [if_neg h], by unfold olC; rw [if_neg h]⟩
    go_enter Tryd.func9, Tryd.ntmps9
    go_wp2
    go_ret2
    exact ⟨ret2 HS.out.1.symm HS.out.2.symm, Below.refl _ _⟩

theorem implOL_any (s : ByteArray) (w : World) (hs : s.size ≤ 1048576) (ht : Hid (TB w)) (hm : Hid (MX w)) :
    Calls Tryd.prog 10 #[.string s] w fun e w' => e = .returned (.tuple #[.string (olS s), .int .i64 (olC s)]) ∧ Below w.heap.size w w' := by
  by_cases h : s.size ≤ 65536
  · have h' : ¬ (65536 : Int) < (s.size : Int) := by omega
    have HS : Hid (olS s = (openO s).getD ⟨#[]⟩ ∧ olC s = if (openO s).isSome then 0 else 14) := ⟨by unfold olS; rw [if_pos h], by unfold olC; rw [if_pos h]⟩
    go_enter Tryd.func10, Tryd.ntmps10
    go_wp2_with fail
    refine (implOpen_any s _ (by omega) ht.out hm.out).mono ?_
    rintro e w1 ⟨t, r, rfl, hb, h0, h1⟩
    have HB : Hid (Below w.heap.size w w1) := hb
    have H0 : Hid (r = false → openO s = none) := h0
    have H1 : Hid (r = true → openO s = some t) := h1
    clear hb h0 h1
    cases r with
    | false =>
      have H9 : Hid (openO s = none) := H0.out rfl
      go_wp2
      go_ret2
      refine ⟨ret2 ?_ ?_, HB.out⟩
      · rw [HS.out.1, H9.out]; rfl
      · rw [HS.out.2, H9.out]; rfl
    | true =>
      have H9 : Hid (openO s = some t) := H1.out rfl
      go_wp2
      go_ret2
      refine ⟨ret2 ?_ ?_, HB.out⟩
      · rw [HS.out.1, H9.out]; rfl
      · rw [HS.out.2, H9.out]; rfl
  · have h' : (65536 : Int) < (s.size : Int) := by omega
    have HS : Hid (olS s = ⟨#[]⟩ ∧ olC s = 2) := ⟨by unfold olS; rw [if_neg h], by unfold olC; rw [if_neg h]⟩
    go_enter Tryd.func10, Tryd.ntmps10
    go_wp2
    go_ret2
    exact ⟨ret2 HS.out.1.symm HS.out.2.symm, Below.refl _ _⟩

theorem law_open (s : ByteArray) (w : World) (hs : s.size ≤ maxLen) (hc : TB w) (hmx : MX w) :
    Calls Tryd.prog 4 #[.string s] w fun e w' => e = .returned (.bool true) ∧ Below w.heap.size w w' := by
  have ht : Hid (TB w) := hc
  have hm : Hid (MX w) := hmx
  clear hc hmx
  unfold maxLen at hs
  by_cases h : s.size ≤ 1048576
  · have h' : ¬ (1048576 : Int) < (s.size : Int) := by omega
    have C1' : Hid (∀ W : World, Calls Tryd.prog 9 #[.string s] W fun e w' => e = .returned (.tuple #[.string (olS s), .int .i64 (olC s)]) ∧ Below W.heap.size W w') := fun W => specOL_any s W h
    have C2' : Hid (∀ W : World, TB W → MX W → Calls Tryd.prog 10 #[.string s] W fun e w' => e = .returned (.tuple #[.string (olS s), .int .i64 (olC s)]) ∧ Below W.heap.size W w') := fun W hT hM => implOL_any s W h hT hM
    generalize olS s = r at *
    generalize olC s = q at *
    go_enter Tryd.func4, Tryd.ntmps4
    go_wp2_with fail
    refine (Calls.mono (C1'.out _) ?_)
    rintro e w1 ⟨rfl, hb⟩
    have HB : Hid (Below w.heap.size w w1) := hb
    clear hb
    go_wp2_with fail
    refine (Calls.mono (C2'.out _ (TB.next (show TB w from ht.out) HB.out) (MX.next (show MX w from hm.out) HB.out)) ?_)
    rintro e w2 ⟨rfl, hb2⟩
    have HB2 : Hid (Below w.heap.size w w2) := bel_next HB hb2
    clear hb2 HB
    go_wp2
    go_ret
    exact ⟨rfl, HB2.out⟩
  · have h' : (1048576 : Int) < (s.size : Int) := by omega
    go_enter Tryd.func4, Tryd.ntmps4
    go_wp2
    go_ret
    exact ⟨rfl, Below.refl _ _⟩
end Go.Proofs.YtnpkilgnkgkenaaDoor

/- Join, of both sides. -/
import Derived.Test.YtcmniplbiliobaaDoorRows
import Derived.WalkKit
import Derived.WalkSpells
import Derived.WalkLawsBesides
import Derived.Deep.QuietTactic
import Derived.BigQuiet
import Derived.Deep.RegionHeld3
import Derived.Test.YtcmniplbiliobaaDoorLj
import Derived.Test.YtcmniplbiliobaaDoorJo
import Derived.Test.YtcmniplbiliobaaDoorJm
import Derived.LoopN
namespace Go.Proofs.YtcmniplbiliobaaDoor
open Go.RowKit
set_option linter.unusedSimpArgs false
set_option linter.unusedVariables false

theorem own_len {w : World} {base e size n k c : Nat} {o : Option Addr} {xs : List Value} (h : w.ownsRow base e size (.slice o k c) n xs) : k = n := by
  rcases h.2 with ⟨h1, h2⟩ | ⟨g, cap, cur, h1, _⟩
  · cases h1; exact h2.symm
  · cases h1; rfl
theorem gro_nil {w W : World} {v : Value} (h : Gro w W (.slice none 0 0) v) : Gro w W (.slice none 0 0) (.slice none 0 0) := ⟨h.grown, fun k hk => .inl hk⟩
theorem rise_of : ∀ {l : List Sib}, (∀ i (h : i + 1 < l.length), Bef l[i] l[i + 1]) → Rise l
  | [], _ => by simp [Rise]
  | [s], _ => by simp [Rise]
  | s :: t :: l, h => by
    have h1 : Rise (t :: l) := rise_of (fun i hi => by have := h (i + 1) (by simpa using hi); simpa using this)
    have h0 := h 0 (by simp)
    refine List.pairwise_cons.2 ⟨fun u hu => ?_, h1⟩
    rcases List.mem_cons.1 hu with e | e
    · subst e; simpa using h0
    · exact Bef.trans (by simpa using h0) (h1.head u e)
theorem ok_known {l : List Sib} {a b c : Int} (h : OkP l a b c) : ∀ s ∈ l, s.n ≤ comp a b c s.p := fun s hs => by
  obtain ⟨i, hi, rfl⟩ := List.mem_iff_getElem.1 hs
  exact of_decide_eq_true (h.2.2 i hi).2.1
theorem ok_rise {l : List Sib} {a b c : Int} (h : OkP l a b c) : Rise l := rise_of (fun i hi => dots_neg.1 (by have := (h.2.2 (i + 1) hi).2.2 (by omega); simpa using this))
theorem ok_nodes {l : List Sib} {a b c : Int} (h : OkP l a b c) : ∀ i (hi : i < l.length), 0 ≤ l[i].p ∧ l[i].p < 3 := fun i hi => sib_node (h.2.2 i hi).1
theorem joined_sj (cap cp : Nat) (ao bo : Option Addr) (l l2 : List Sib) (a b c x y z : Int) (w : World) (hO : OkP l a b c) (hP : OkP l2 x y z) (hc2 : l2.length ≤ cp) (hr0 : SibRow w ao l) (hs0 : SibRow w bo l2) :
    Calls Tryd.prog 40 #[.agg #[.slice ao l.length cap, .int .i64 a, .int .i64 b, .int .i64 c], .agg #[.slice bo l2.length cp, .int .i64 x, .int .i64 y, .int .i64 z]] w fun e w' => ∃ v, e = .returned (.agg #[v, .int .i64 (max a x), .int .i64 (max b y), .int .i64 (max c z)]) ∧ Gro w w' (.slice none 0 0) v ∧ w'.ownsRow 0 74 4 v (sj a b c x y z l l2).length (flat (sj a b c x y z l l2)) := by
  have e := jn_sj (a := a) (b := b) (c := c) (x := x) (y := y) (z := z) (ok_rise hO) (ok_rise hP) (ok_known hO)
  have := joined_any cap cp ao bo l l2 a b c x y z w (by have := hO.1; omega) (by have := hP.1; omega) hc2 (ok_nodes hO) (ok_nodes hP) hr0 hs0
  rw [e] at this
  exact this
theorem l02join_sj (cap cp : Nat) (ao bo : Option Addr) (l l2 : List Sib) (a b c x y z : Int) (w : World) (hO : OkP l a b c) (hP : OkP l2 x y z) (hc2 : l2.length ≤ cp) (hr0 : SibRow w ao l) (hs0 : SibRow w bo l2) :
    Calls Tryd.prog 57 #[.agg #[.slice ao l.length cap, .int .i64 a, .int .i64 b, .int .i64 c], .agg #[.slice bo l2.length cp, .int .i64 x, .int .i64 y, .int .i64 z]] w fun e w' => ∃ v, e = .returned (.agg #[v, .int .i64 (max a x), .int .i64 (max b y), .int .i64 (max c z)]) ∧ Gro w w' (.slice none 0 0) v ∧ w'.ownsRow 0 74 4 v (sj a b c x y z l l2).length (flat (sj a b c x y z l l2)) := l02join_any cap cp ao bo l l2 a b c x y z w (by have := hO.1; omega) (by have := hP.1; omega) (ok_nodes hO) (ok_nodes hP) hr0 hs0
/-- What a join answers. -/
def JR (k0 k1 : Bool) (l l2 : List Sib) (a b c x y z : Int) (J : List Sib) (p q r code : Int) : Prop :=
  (¬ (k0 = true ∧ k1 = true) → J = [] ∧ p = 0 ∧ q = 0 ∧ r = 0 ∧ code = 1) ∧ (k0 = true → k1 = true → 100 < (sj a b c x y z l l2).length → J = [] ∧ p = 0 ∧ q = 0 ∧ r = 0 ∧ code = 6) ∧ (k0 = true → k1 = true → ¬ 100 < (sj a b c x y z l l2).length → J = sj a b c x y z l l2 ∧ p = max a x ∧ q = max b y ∧ r = max c z ∧ code = 0)
theorem jr_of (k0 k1 : Bool) (l l2 : List Sib) (a b c x y z : Int) : ∃ J p q r code, Hid (JR k0 k1 l l2 a b c x y z J p q r code) ∧ J.length ≤ 100 := by
  by_cases h : k0 = true ∧ k1 = true
  · by_cases h1 : 100 < (sj a b c x y z l l2).length
    · exact ⟨[], 0, 0, 0, 6, ⟨fun h' => (h' h).elim, fun _ _ _ => ⟨rfl, rfl, rfl, rfl, rfl⟩, fun _ _ h' => (h' h1).elim⟩, by simp⟩
    · exact ⟨sj a b c x y z l l2, max a x, max b y, max c z, 0, ⟨fun h' => (h' h).elim, fun _ _ h' => (h1 h').elim, fun _ _ _ => ⟨rfl, rfl, rfl, rfl, rfl⟩⟩, by omega⟩
  · exact ⟨[], 0, 0, 0, 1, ⟨fun _ => ⟨rfl, rfl, rfl, rfl, rfl⟩, fun h1 h2 _ => (h ⟨h1, h2⟩).elim, fun h1 h2 _ => (h ⟨h1, h2⟩).elim⟩, by simp⟩

end Go.Proofs.YtcmniplbiliobaaDoor

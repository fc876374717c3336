/- SameObj of the specification tells whether all is alike. -/
import Derived.Test.YtcmniplbiliobaaDoorRows
import Derived.WalkKit
import Derived.WalkSpells
import Derived.WalkLawsBesides
import Derived.Deep.QuietTactic
import Derived.BigQuiet
import Derived.Deep.RegionHeld3
import Derived.LoopN
import Derived.OwnWalk
import Derived.Laws.StructEq
import Derived.Test.YtcmniplbiliobaaDoorSb
import Derived.Test.YtcmniplbiliobaaDoorSc
namespace Go.Proofs.YtcmniplbiliobaaDoor
open Go.RowKit
set_option linter.unusedSimpArgs false
set_option linter.unusedVariables false

def Same (l l2 : List Sib) (a b c x y z : Int) : Prop := (a == x && (b == y && c == z)) = true ∧ l.length = l2.length ∧ ∀ i (h : i < l.length) (h2 : i < l2.length), sibB l[i] l2[i] = true

theorem bool_no {r : Bool} {P : Prop} (h : Hid (r = true ↔ P)) (hn : ¬ P) : r = false := by
  cases r
  · rfl
  · exact (hn (h.out.1 rfl)).elim

theorem bool_yes {r : Bool} {P : Prop} (h : Hid (r = true ↔ P)) (hp : P) : r = true := h.out.2 hp

set_option maxHeartbeats 1000000 in
theorem lsame_any (cap cp : Nat) (ao bo : Option Addr) (l l2 : List Sib) (a b c x y z : Int) (r : Bool) (hres : Hid (r = true ↔ Same l l2 a b c x y z)) (w : World) (hm : (l.length : Int) ≤ 1048576) (hm2 : (l2.length : Int) ≤ 1048576) (hr0 : SibRow w ao l) (hs0 : SibRow w bo l2) :
    Calls Tryd.prog 16 #[.agg #[.slice ao l.length cap, .int .i64 a, .int .i64 b, .int .i64 c], .agg #[.slice bo l2.length cp, .int .i64 x, .int .i64 y, .int .i64 z]] w fun e w' => e = .returned (.bool r) ∧ Below w.heap.size w w' := by
  have hr : Hid (SibRow w ao l) := hr0
  have hs : Hid (SibRow w bo l2) := hs0
  clear hr0 hs0
  have ev := eqv a b c x y z
  cases heb : (a == x && (b == y && c == z))
  · have HR : Hid (r = false) := bool_no hres (fun h => by rw [h.1] at heb; cases heb)
    rw [heb] at ev
    clear heb
    go_enter Tryd.func16, Tryd.ntmps16
    go_wp2
    go_ret
    refine ⟨ret_bool HR.out.symm, ?_⟩
    repeat (first | exact Below.refl _ _ | refine Below.drew ?_ | refine below_drewN ?_ _ | refine Below.alloc ?_ (by first | (simp; done) | (simp; omega)) _ | refine Below.setCell ?_ (by first | (simp; done) | (simp; omega)) _)
  rw [heb] at ev
  have HE : Hid ((a == x && (b == y && c == z)) = true) := heb
  clear heb
  by_cases hll : l.length = l2.length
  case neg =>
    have HR : Hid (r = false) := bool_no hres (fun h => hll h.2.1)
    have hne : ((l.length : Int) == (l2.length : Int)) = false := beq_eq_false_iff_ne.2 (by omega)
    clear hll
    go_enter Tryd.func16, Tryd.ntmps16
    go_wp2
    go_ret
    refine ⟨ret_bool HR.out.symm, ?_⟩
    repeat (first | exact Below.refl _ _ | refine Below.drew ?_ | refine below_drewN ?_ _ | refine Below.alloc ?_ (by first | (simp; done) | (simp; omega)) _ | refine Below.setCell ?_ (by first | (simp; done) | (simp; omega)) _)
  have heq : ((l.length : Int) != (l2.length : Int)) = false := by simp; omega
  have HL : Hid (l.length = l2.length) := hll
  clear hll
  go_enter Tryd.func16, Tryd.ntmps16
  go_wp2
  clear ev
  go_loopw [5] (fun s5 wr => ∃ k : Nat, k ≤ l.length ∧ s5 = .int .i64 k ∧ Below w.heap.size w wr ∧ (∀ i (h : i < l.length) (h2 : i < l2.length), i < k → sibB l[i] l2[i] = true) ∧ wr.cell? ⟨w.heap.size, 0, none⟩ = some (.slice ao l.length cap) ∧ wr.cell? ⟨w.heap.size + 1, 0, none⟩ = some (.slice bo l2.length cp)) (fun s5 _ => l.length - (intOf s5).toNat)
  case atStart => exact ⟨0, by omega, rfl, (((Below.refl _ _).alloc (Nat.le_refl _) _).alloc (by simp) _), fun i h h2 h3 => by omega, by go_simp, by go_simp⟩
  case round =>
    obtain ⟨k, hk, rfl, hB0, hA0, b0, b1⟩ := hrel
    have hB : Hid (Below w.heap.size w wr) := hB0
    have hA : Hid (∀ i (h : i < l.length) (h2 : i < l2.length), i < k → sibB l[i] l2[i] = true) := hA0
    clear hB0 hA0
    by_cases hkl : k < l.length
    · have hkl2 : k < l2.length := by have := HL.out; omega
      have hkl' : (k : Int) < (l.length : Int) := by omega
      have hkl3 : (k : Int) < (l2.length : Int) := by omega
      rcases hr.out with h' | ⟨p, off, rfl, h2⟩
      · rw [h'] at hkl; simp at hkl
      rcases hs.out with h' | ⟨q, oft, rfl, h3⟩
      · rw [h'] at hkl2; simp at hkl2
      obtain ⟨x0, x1, x2, x3⟩ := (h2 k hkl).next hB.out (cell_lt (x := ⟨p, off + k * 4, none⟩) (h2 k hkl).1)
      obtain ⟨y0, y1, y2, y3⟩ := (h3 k hkl2).next hB.out (cell_lt (x := ⟨q, oft + k * 4, none⟩) (h3 k hkl2).1)
      have es := eqs l[k] l2[k]
      have k0 : (0 : Int) ≤ (k : Int) := by omega
      clear h2 h3
      cases hsb : sibB l[k] l2[k]
      · have HR : Hid (r = false) := bool_no hres (fun h => by rw [h.2.2 k hkl hkl2] at hsb; cases hsb)
        rw [hsb] at es
        clear hsb
        go_wp2
        go_quiet (fail)
        go_wp2
        go_ret
        exact ⟨ret_bool HR.out.symm, below_drewN hB.out _⟩
      · rw [hsb] at es
        have HS : Hid (sibB l[k] l2[k] = true) := hsb
        clear hsb
        go_wp2
        go_quiet (fail)
        go_wp2
        have hA1 : ∀ i (h : i < l.length) (h2 : i < l2.length), i < k + 1 → sibB l[i] l2[i] = true := fun i h h2 h3 => by
          by_cases e : i = k
          · subst e; exact HS.out
          · exact hA.out i h h2 (by omega)
        go_roundw
        case rel => first | exact ⟨k + 1, by omega, by go_num, below_drewN hB.out _, hA1, b0, b1⟩ | ((repeat apply Exists.intro); exact ⟨⟨k + 1, by omega, by go_num, below_drewN hB.out _, hA1, b0, b1⟩, rfl⟩)
        case measure => simp [intOf]; omega
    · have hkl' : ¬ (k : Int) < (l.length : Int) := by omega
      have HR : Hid (r = true) := bool_yes hres ⟨HE.out, HL.out, fun i h h2 => hA.out i h h2 (by omega)⟩
      go_wp2
      go_ret
      exact ⟨ret_bool HR.out.symm, hB.out⟩
end Go.Proofs.YtcmniplbiliobaaDoor

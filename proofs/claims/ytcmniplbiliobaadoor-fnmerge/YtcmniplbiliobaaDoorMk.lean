/- Marks: what is written into a list, and that it is held. -/
import Derived.Test.YtcmniplbiliobaaDoorRows
import Derived.WalkKit
import Derived.WalkSpells
import Derived.WalkLawsBesides
import Derived.Deep.QuietTactic
import Derived.BigQuiet
import Derived.Deep.RegionHeld3
import Derived.Test.YtcmniplbiliobaaDoorAp
import Derived.Test.YtcmniplbiliobaaDoorIo
import Derived.LoopN
namespace Go.Proofs.YtcmniplbiliobaaDoor
open Go.RowKit
set_option linter.unusedSimpArgs false
set_option linter.unusedVariables false

theorem gb_refl (w : World) (r : Option Nat) : w.grownBy w r := ⟨rfl, rfl, rfl, Nat.le_refl _, fun _ _ _ => rfl⟩
theorem gb_trans {w w1 w2 : World} {r : Option Nat} (h : w.grownBy w1 r) (k : w1.grownBy w2 r) : w.grownBy w2 r :=
  ⟨k.os.trans h.os, k.tape.trans h.tape, k.output.trans h.output, Nat.le_trans h.size k.size, fun b hb hne => (k.block b (Nat.lt_of_lt_of_le hb h.size) hne).trans (h.block b hb hne)⟩
theorem gb_below {w w' : World} {r : Option Nat} (h : Below w.heap.size w w') : w.grownBy w' r := ⟨h.os, h.tape, h.output, h.size, fun b hb _ => h.block b hb⟩
theorem gb_set (w : World) (g o : Nat) (u : Value) : w.grownBy (w.setCell ⟨g, o, none⟩ u) (some g) :=
  ⟨by simp [World.setCell], by simp [World.setCell], by simp [World.setCell], by simp [World.setCell], fun b _ hne => Below.heap_setCell w ⟨g, o, none⟩ u b (fun e => hne (by rw [e]))⟩
theorem bel_mark {w W W' : World} {r : Option Nat} (h : Hid (Below w.heap.size w W)) (hg : W.grownBy W' r) (hr : ∀ k, r = some k → w.heap.size ≤ k) : Hid (Below w.heap.size w W') :=
  ⟨hg.os.trans h.out.os, hg.tape.trans h.out.tape, hg.output.trans h.out.output, Nat.le_trans h.out.size hg.size, fun b hb => (hg.block b (Nat.lt_of_lt_of_le hb h.out.size) (fun e => by have := hr b e.symm; omega)).trans (h.out.block b hb)⟩
theorem cell_oth {W : World} {g o o' : Nat} {u v : Value} (h : W.cell? ⟨g, o, none⟩ = some v) (hne : o ≠ o') : (W.setCell ⟨g, o', none⟩ u).cell? ⟨g, o, none⟩ = some v := by
  rw [World.cell?_setCell_other _ _ _ _ (fun e => by cases e; exact hne rfl)]
  exact h
theorem cell_same {W : World} {g o : Nat} {u v : Value} (h : W.cell? ⟨g, o, none⟩ = some v) : (W.setCell ⟨g, o, none⟩ u).cell? ⟨g, o, none⟩ = some u := World.cell?_setCell_same W _ u h
end Go.Proofs.YtcmniplbiliobaaDoor

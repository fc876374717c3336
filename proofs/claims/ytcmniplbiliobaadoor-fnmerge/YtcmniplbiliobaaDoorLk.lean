/- Chains of calls over objects: boxes, rows, marks. -/
import Derived.Test.YtcmniplbiliobaaDoorRows
import Derived.WalkKit
import Derived.WalkSpells
import Derived.WalkLawsBesides
import Derived.Deep.QuietTactic
import Derived.BigQuiet
import Derived.Deep.RegionHeld3
import Derived.Test.YtcmniplbiliobaaDoorSp
import Derived.Test.YtcmniplbiliobaaDoorSo
import Derived.Test.YtcmniplbiliobaaDoorMk
import Derived.Test.YtcmniplbiliobaaDoorAp
import Derived.LoopN
namespace Go.Proofs.YtcmniplbiliobaaDoor
open Go.RowKit
set_option linter.unusedSimpArgs false
set_option linter.unusedVariables false

/-- An object's four cells in its box. -/
def Cells4 (W : World) (g : Nat) (v0 : Value) (a b c : Int) : Prop := W.cell? ⟨g, 0, none⟩ = some v0 ∧ W.cell? ⟨g, 1, none⟩ = some (.int .i64 a) ∧ W.cell? ⟨g, 2, none⟩ = some (.int .i64 b) ∧ W.cell? ⟨g, 3, none⟩ = some (.int .i64 c)
theorem c4_next {W W' : World} {g : Nat} {v0 : Value} {a b c : Int} (h : Hid (Cells4 W g v0 a b c)) (hb : Below W.heap.size W W') (hl : Hid (g < W.heap.size)) : Hid (Cells4 W' g v0 a b c) :=
  ⟨cell_next hb h.out.1 hl.out, cell_next hb h.out.2.1 hl.out, cell_next hb h.out.2.2.1 hl.out, cell_next hb h.out.2.2.2 hl.out⟩
theorem lt_next {W W' : World} {g n : Nat} (hl : Hid (g < W.heap.size)) (hb : Below n W W') : Hid (g < W'.heap.size) := Nat.lt_of_lt_of_le hl.out hb.size
theorem le_next {W W' : World} {g n : Nat} (hl : Hid (g ≤ W.heap.size)) (hb : Below n W W') : Hid (g ≤ W'.heap.size) := Nat.le_trans hl.out hb.size
theorem row_next {W W' : World} {ao : Option Addr} {l : List Sib} (h : Hid (SibRow W ao l)) (hb : Below W.heap.size W W') : Hid (SibRow W' ao l) := h.out.next hb
theorem bel_next {w W W' : World} (h : Hid (Below w.heap.size w W)) (hb : Below W.heap.size W W') : Hid (Below w.heap.size w W') := h.out.trans (hb.mono h.out.size)
theorem bel_alloc (W : World) (o : Obj) : Below W.heap.size W (W.alloc o) := (Below.refl _ _).alloc (Nat.le_refl _) _
theorem bel_drew (W : World) : Below W.heap.size W W.drew := (Below.refl _ _).drew
theorem box_new {W : World} {v0 : Value} {a b c : Int} {t : TypeId} : Hid (Cells4 (W.alloc (.cells #[v0, .int .i64 a, .int .i64 b, .int .i64 c] t)) W.heap.size v0 a b c) := by
  refine ⟨?_, ?_, ?_, ?_⟩ <;> go_simp
theorem lt_new {W : World} {o : Obj} : Hid (W.heap.size < (W.alloc o).heap.size) := by show _ < _; simp
theorem row_of_at {W : World} {g : Nat} {l : List Sib} (h : ∀ i (h : i < l.length), SibAt W g (i * 4) l[i]) : Hid (SibRow W (some ⟨g, 0, none⟩) l) := Or.inr ⟨g, 0, rfl, fun i hi => by simpa using h i hi⟩
theorem row_hid {W : World} {ao : Option Addr} {l : List Sib} (h : SibRow W ao l) : Hid (SibRow W ao l) := h

def Cells3 (W : World) (g : Nat) (a b c : Int) : Prop := W.cell? ⟨g, 0, none⟩ = some (.int .i64 a) ∧ W.cell? ⟨g, 1, none⟩ = some (.int .i64 b) ∧ W.cell? ⟨g, 2, none⟩ = some (.int .i64 c)
theorem c3_next {W W' : World} {g : Nat} {a b c : Int} (h : Hid (Cells3 W g a b c)) (hb : Below W.heap.size W W') (hl : Hid (g < W.heap.size)) : Hid (Cells3 W' g a b c) :=
  ⟨cell_next hb h.out.1 hl.out, cell_next hb h.out.2.1 hl.out, cell_next hb h.out.2.2 hl.out⟩
def Cells2 (W : World) (g : Nat) (a b : Int) : Prop := W.cell? ⟨g, 0, none⟩ = some (.int .i64 a) ∧ W.cell? ⟨g, 1, none⟩ = some (.int .i64 b)
theorem c2_next {W W' : World} {g : Nat} {a b : Int} (h : Hid (Cells2 W g a b)) (hb : Below W.heap.size W W') (hl : Hid (g < W.heap.size)) : Hid (Cells2 W' g a b) :=
  ⟨cell_next hb h.out.1 hl.out, cell_next hb h.out.2 hl.out⟩
theorem bool_of (P : Prop) : ∃ r : Bool, Hid (r = true ↔ P) := by
  by_cases h : P
  · exact ⟨true, ⟨fun _ => h, fun _ => rfl⟩⟩
  · exact ⟨false, ⟨fun h' => (by cases h'), fun h' => (h h').elim⟩⟩

theorem row_at {w W : World} {ao : Option Addr} {l : List Sib} (h : Hid (SibRow w ao l)) (hb : Hid (Below w.heap.size w W)) : SibRow W ao l := h.out.next hb.out
theorem own_hnext {w w' : World} {e size n : Nat} {v : Value} {xs : List Value} (h : Hid (w.ownsRow 0 e size v n xs)) (hb : Below w.heap.size w w') : Hid (w'.ownsRow 0 e size v n xs) := own_next h.out hb
theorem own_mark {w w' : World} {e size n : Nat} {v : Value} {xs : List Value} {r : Option Nat} (h : Hid (w.ownsRow 0 e size v n xs)) (hg : w.grownBy w' r) (hne : ∀ k, v.ownBlock = some k → r ≠ some k) : Hid (w'.ownsRow 0 e size v n xs) := by
  refine h.out.kept hg ?_
  cases hv : v.ownBlock with
  | none => exact .inl rfl
  | some k => exact .inr (fun e => hne k hv e.symm)
theorem c4_mark {W W' : World} {g : Nat} {v0 : Value} {a b c : Int} {r : Option Nat} (h : Hid (Cells4 W g v0 a b c)) (hg : W.grownBy W' r) (hne : r ≠ some g) : Hid (Cells4 W' g v0 a b c) :=
  ⟨hg.cell h.out.1 (fun e => hne e.symm), hg.cell h.out.2.1 (fun e => hne e.symm), hg.cell h.out.2.2.1 (fun e => hne e.symm), hg.cell h.out.2.2.2 (fun e => hne e.symm)⟩
theorem lt_mark {W W' : World} {g : Nat} {r : Option Nat} (h : Hid (g < W.heap.size)) (hg : W.grownBy W' r) : Hid (g < W'.heap.size) := Nat.lt_of_lt_of_le h.out hg.size
theorem th_next {W W' : World} {g n : Nat} (h : Hid (There W g n)) (hb : Below W.heap.size W W') (hl : Hid (g < W.heap.size)) : Hid (There W' g n) := h.out.next hb hl.out
end Go.Proofs.YtcmniplbiliobaaDoor

/- Three replicas, as the laws draw them, and calls over them. -/
import Derived.Test.YtcmniplbiliobaaDoorRows
import Derived.WalkKit
import Derived.WalkSpells
import Derived.WalkLawsBesides
import Derived.Deep.QuietTactic
import Derived.BigQuiet
import Derived.Deep.RegionHeld3
import Derived.Test.YtcmniplbiliobaaDoorOb
import Derived.Test.YtcmniplbiliobaaDoorSd
import Derived.Test.YtcmniplbiliobaaDoorSm
import Derived.LoopN
namespace Go.Proofs.YtcmniplbiliobaaDoor
open Go.RowKit
set_option linter.unusedSimpArgs false
set_option linter.unusedVariables false

/-- What ObjsOf leaves. -/
def OoP (w : World) (e : Ending) (w' : World) : Prop := ∃ (V : Int → Int → Int × Bool) (m : Nat → Int) (o : Nat → Ov) (q : Nat), e = .returned (.slice (some ⟨q, 0, none⟩) 3 3) ∧ (∀ j, j < 3 → ObAt w' q (j * 4) (o j)) ∧ (∀ j, j < 3 → SibRow w' (o j).ao (o j).l ∧ (o j).l.length ≤ (o j).cap) ∧ (∀ j, j < 3 → Rp V (m 0) (m 1) (m 2) (o j).l (o j).a (o j).b (o j).c) ∧ (m 0 ≤ 17 ∧ m 1 ≤ 17 ∧ m 2 ≤ 17) ∧ Below w.heap.size w w'
set_option maxHeartbeats 2000000 in
theorem objsOf_any (ao : Option Addr) (len cap : Nat) (zs : List Int) (w : World) (hl : (len : Int) ≤ 1048576) (hr0 : Gen.IsRow .u8 w ao len cap zs) :
    Calls Tryd.prog 10 #[.slice ao len cap] w fun e w' => OoP w e w' := by
  have CD : Hid (Calls Tryd.prog 30 #[.pointer (some ⟨w.heap.size, 0, none⟩)] (w.alloc (.cells #[.slice ao len cap, .int .i64 0, .int .i64 ((len : Int) % 1000)] 94)) fun e w' => ObP (w.alloc (.cells #[.slice ao len cap, .int .i64 0, .int .i64 ((len : Int) % 1000)] 94)) w.heap.size e w') := by
    refine objs_any w.heap.size len cap ao zs ((len : Int) % 1000) _ ?_ (row_below hr0 (bel_alloc _ _)) (fun x hx hc => by have := row_lt hr0 x hx hc; omega) (fun x hx hc => by have := row_lt hr0 x hx hc; simp; omega) hl
    exact ⟨by go_simp, by go_simp, by go_simp, by go_simp, by go_simp, by simp, by omega, by omega⟩
  clear hr0
  go_enter Tryd.func10, Tryd.ntmps10
  go_wp2_with fail
  refine (source_any len cap ao _ hl).mono ?_
  rintro e w1 ⟨rfl, rfl⟩
  go_wp2_with fail
  refine Calls.mono CD.out ?_
  rintro e w2 ⟨V, m, o, q, rfl, hq0, hq1, hob, hro, hrp, hm, hg⟩
  have HO : Hid _ := hob
  have HR : Hid _ := hro
  have HP : Hid _ := hrp
  have HM : Hid _ := hm
  have BX : Hid (Below w.heap.size w w2) := grown_below ((World.grownBy_alloc w _ _).trans hg) (Nat.le_refl _) (Nat.le_refl _)
  clear hob hro hrp hm hg CD
  go_wp2
  go_ret
  exact ⟨V, m, o, q, rfl, HO.out, fun j hj => ⟨(HR.out j hj).row, (HR.out j hj).cap⟩, HP.out, HM.out, BX.out⟩
/-- An object in a box of its own. -/
structure Bx (W : World) (b : Nat) (x : Ov) : Prop where
  cells : W.cell? ⟨b, 0, none⟩ = some (.slice x.ao x.l.length x.cap) ∧ W.cell? ⟨b, 1, none⟩ = some (.int .i64 x.a) ∧ W.cell? ⟨b, 2, none⟩ = some (.int .i64 x.b) ∧ W.cell? ⟨b, 3, none⟩ = some (.int .i64 x.c)
  row : SibRow W x.ao x.l
  cap : x.l.length ≤ x.cap
theorem bx_next {W W' : World} {b : Nat} {x : Ov} (h : Hid (Bx W b x)) (hb : Below W.heap.size W W') : Hid (Bx W' b x) :=
  ⟨⟨cell_next hb h.out.cells.1 (cell_lt h.out.cells.1), cell_next hb h.out.cells.2.1 (cell_lt h.out.cells.1), cell_next hb h.out.cells.2.2.1 (cell_lt h.out.cells.1), cell_next hb h.out.cells.2.2.2 (cell_lt h.out.cells.1)⟩, h.out.row.next hb, h.out.cap⟩
theorem bx_new {W : World} {x : Ov} {t : TypeId} (hr : SibRow W x.ao x.l) (hc : x.l.length ≤ x.cap) : Hid (Bx (W.alloc (.cells #[.slice x.ao x.l.length x.cap, .int .i64 x.a, .int .i64 x.b, .int .i64 x.c] t)) W.heap.size x) := by
  refine ⟨⟨?_, ?_, ?_, ?_⟩, hr.next (bel_alloc _ _), hc⟩ <;> go_simp
/-- One object is the join of two. -/
structure Jo (x y z : Ov) : Prop where
  l : z.l = sj x.a x.b x.c y.a y.b y.c x.l y.l
  a : z.a = max x.a y.a
  b : z.b = max x.b y.b
  c : z.c = max x.c y.c
def Al (x y : Ov) : Prop := x.l = y.l ∧ x.a = y.a ∧ x.b = y.b ∧ x.c = y.c
def RpO (V : Int → Int → Int × Bool) (m : Nat → Int) (x : Ov) : Prop := Rp V (m 0) (m 1) (m 2) x.l x.a x.b x.c
section
variable {V : Int → Int → Int × Bool} {m : Nat → Int} {x y z u v t : Ov}
theorem Jo.rp (h : Jo x y z) (hx : RpO V m x) (hy : RpO V m y) : RpO V m z := by
  unfold RpO
  rw [h.l, h.a, h.b, h.c]
  exact hx.join hy
theorem jo_same (h : Jo x y z) (k : Jo x y u) : Al z u := ⟨by rw [h.l, k.l], by rw [h.a, k.a], by rw [h.b, k.b], by rw [h.c, k.c]⟩
theorem jo_comm (h : Jo x y z) (k : Jo y x u) (hx : RpO V m x) (hy : RpO V m y) : Al z u := ⟨by rw [h.l, k.l]; exact hx.comm hy, by rw [h.a, k.a]; omega, by rw [h.b, k.b]; omega, by rw [h.c, k.c]; omega⟩
theorem jo_assoc {xy yw w l r : Ov} (h1 : Jo x y xy) (h2 : Jo y w yw) (h3 : Jo xy w l) (h4 : Jo x yw r) (hx : RpO V m x) (hy : RpO V m y) (hw : RpO V m w) : Al l r := by
  refine ⟨?_, ?_, ?_, ?_⟩
  · rw [h3.l, h4.l, h1.l, h1.a, h1.b, h1.c, h2.l, h2.a, h2.b, h2.c]
    exact hx.assoc hy hw
  · rw [h3.a, h4.a, h1.a, h2.a]; omega
  · rw [h3.b, h4.b, h1.b, h2.b]; omega
  · rw [h3.c, h4.c, h1.c, h2.c]; omega
theorem jo_self (h : Jo x x z) (hx : RpO V m x) : Al z x := ⟨by rw [h.l]; exact hx.idem, by rw [h.a]; omega, by rw [h.b]; omega, by rw [h.c]; omega⟩
theorem jo_again {xy : Ov} (h : Jo x y xy) (k : Jo xy y z) (hx : RpO V m x) (hy : RpO V m y) : Al z xy := by
  refine ⟨?_, ?_, ?_, ?_⟩
  · rw [k.l, h.l, h.a, h.b, h.c]
    exact hx.again hy
  · rw [k.a, h.a]; omega
  · rw [k.b, h.b]; omega
  · rw [k.c, h.c]; omega
theorem jo_again0 {xy : Ov} (h : Jo x y xy) (k : Jo xy x z) (hx : RpO V m x) (hy : RpO V m y) : Al z xy := by
  refine ⟨?_, ?_, ?_, ?_⟩
  · rw [k.l, h.l, h.a, h.b, h.c]
    exact hx.again0 hy
  · rw [k.a, h.a]; omega
  · rw [k.b, h.b]; omega
  · rw [k.c, h.c]; omega
end
def H17 (m : Nat → Int) : Prop := m 0 ≤ 17 ∧ m 1 ≤ 17 ∧ m 2 ≤ 17
theorem jr_true {x y : Ov} {V : Int → Int → Int × Bool} {m : Nat → Int} (hx : RpO V m x) (hy : RpO V m y) (h : H17 m) : JR true true x.l y.l x.a x.b x.c y.a y.b y.c (sj x.a x.b x.c y.a y.b y.c x.l y.l) (max x.a y.a) (max x.b y.b) (max x.c y.c) 0 := by
  have := (hx.join hy).len h.1 h.2.1 h.2.2
  exact ⟨fun h => (h ⟨rfl, rfl⟩).elim, fun _ _ h => by omega, fun _ _ _ => ⟨rfl, rfl, rfl, rfl, rfl⟩⟩
def JoP (W : World) (x y : Ov) (e : Ending) (w' : World) : Prop := ∃ z : Ov, e = .returned (.tuple #[.agg #[.slice z.ao z.l.length z.cap, .int .i64 z.a, .int .i64 z.b, .int .i64 z.c], .int .i64 0]) ∧ Jo x y z ∧ Below W.heap.size W w' ∧ SibRow w' z.ao z.l ∧ z.l.length ≤ z.cap

theorem eqs_self (l : List Sib) : ∀ i (h : i < l.length) (h2 : i < l.length), sibB l[i] l[i] = true := fun i h _ => by simp [sibB]
theorem same_of {x y : Ov} (h : Al x y) : Same x.l y.l x.a x.b x.c y.a y.b y.c := by
  obtain ⟨h1, h2, h3, h4⟩ := h
  rw [h1, h2, h3, h4]
  exact ⟨by simp, rfl, eqs_self y.l⟩

theorem lawSame {V : Int → Int → Int × Bool} {m : Nat → Int} (x y : Ov) (hx : RpO V m x) (ha : Al x y) (h : H17 m) (W : World) (hrx : SibRow W x.ao x.l) (hry : SibRow W y.ao y.l) :
    Calls Tryd.prog 16 #[.agg #[.slice x.ao x.l.length x.cap, .int .i64 x.a, .int .i64 x.b, .int .i64 x.c], .agg #[.slice y.ao y.l.length y.cap, .int .i64 y.a, .int .i64 y.b, .int .i64 y.c]] W fun e w' => e = .returned (.bool true) ∧ Below W.heap.size W w' := by
  have l1 := hx.len h.1 h.2.1 h.2.2
  have l2 := l1
  rw [ha.1] at l2
  exact lsame_any x.cap y.cap x.ao y.ao x.l y.l x.a x.b x.c y.a y.b y.c true ⟨fun _ => same_of ha, fun _ => rfl⟩ W (by omega) (by omega) hrx hry

theorem implSame {V : Int → Int → Int × Bool} {m : Nat → Int} (x y : Ov) (hx : RpO V m x) (ha : Al x y) (h : H17 m) (W : World) (hrx : SibRow W x.ao x.l) (hry : SibRow W y.ao y.l) :
    Calls Tryd.prog 37 #[.agg #[.slice x.ao x.l.length x.cap, .int .i64 x.a, .int .i64 x.b, .int .i64 x.c], .agg #[.slice y.ao y.l.length y.cap, .int .i64 y.a, .int .i64 y.b, .int .i64 y.c]] W fun e w' => e = .returned (.bool true) ∧ Below W.heap.size W w' := by
  have l1 := hx.len h.1 h.2.1 h.2.2
  have l2 := l1
  rw [ha.1] at l2
  exact implSame_any x.cap y.cap x.ao y.ao x.l y.l x.a x.b x.c y.a y.b y.c true ⟨fun _ => same_of ha, fun _ => rfl⟩ W (by omega) (by omega) hrx hry

theorem implOk {V : Int → Int → Int × Bool} {m : Nat → Int} (x : Ov) (hx : RpO V m x) (h : H17 m) (W : World) (hrx : SibRow W x.ao x.l) :
    Calls Tryd.prog 33 #[.agg #[.slice x.ao x.l.length x.cap, .int .i64 x.a, .int .i64 x.b, .int .i64 x.c]] W fun e w' => e = .returned (.bool true) ∧ Below W.heap.size W w' := by
  have l1 := hx.len h.1 h.2.1 h.2.2
  exact implOK_any x.cap x.ao x.l x.a x.b x.c true ⟨fun _ => hx.okP h.1 h.2.1 h.2.2, fun _ => rfl⟩ W (by omega) hrx
end Go.Proofs.YtcmniplbiliobaaDoor

/- What drawing replicas keeps. -/
import Derived.Test.YtcmniplbiliobaaDoorRows
import Derived.WalkKit
import Derived.WalkSpells
import Derived.WalkLawsBesides
import Derived.Deep.QuietTactic
import Derived.BigQuiet
import Derived.Deep.RegionHeld3
import Derived.Test.YtcmniplbiliobaaDoorCh
import Derived.Test.YtcmniplbiliobaaDoorNj
import Derived.Test.YtcmniplbiliobaaDoorJb
import Derived.Test.YtcmniplbiliobaaDoorWb
import Derived.LoopN
namespace Go.Proofs.YtcmniplbiliobaaDoor
open Go.RowKit
set_option linter.unusedSimpArgs false
set_option linter.unusedVariables false

/-- An object: where its siblings lie, and what is known. -/
structure Ov where
  ao : Option Addr
  cap : Nat
  l : List Sib
  a : Int
  b : Int
  c : Int
def ObAt (W : World) (g off : Nat) (o : Ov) : Prop := W.cell? ⟨g, off, none⟩ = some (.slice o.ao o.l.length o.cap) ∧ W.cell? ⟨g, off + 1, none⟩ = some (.int .i64 o.a) ∧ W.cell? ⟨g, off + 2, none⟩ = some (.int .i64 o.b) ∧ W.cell? ⟨g, off + 3, none⟩ = some (.int .i64 o.c)
theorem ObAt.by {W W' : World} {p off g : Nat} {o : Ov} (h : ObAt W p off o) (hg : W.grownBy W' (some g)) (hne : p ≠ g) : ObAt W' p off o :=
  ⟨grown_cell hg h.1 hne, grown_cell hg h.2.1 hne, grown_cell hg h.2.2.1 hne, grown_cell hg h.2.2.2 hne⟩
theorem ObAt.next {W W' : World} {p off : Nat} {o : Ov} (h : ObAt W p off o) (hb : Below W.heap.size W W') : ObAt W' p off o :=
  ⟨cell_next hb h.1 (cell_lt h.1), cell_next hb h.2.1 (cell_lt h.1), cell_next hb h.2.2.1 (cell_lt h.1), cell_next hb h.2.2.2 (cell_lt h.1)⟩
theorem ObAt.set {W : World} {p off q i : Nat} {u : Value} {o : Ov} (h : ObAt W p off o) (hne : p ≠ q) : ObAt (W.setCell ⟨q, i, none⟩ u) p off o :=
  ⟨cell_set h.1 hne, cell_set h.2.1 hne, cell_set h.2.2.1 hne, cell_set h.2.2.2 hne⟩
theorem ObAt.off {W : World} {p off i : Nat} {u : Value} {o : Ov} (h : ObAt W p off o) (hne : i < off ∨ off + 3 < i) : ObAt (W.setCell ⟨p, i, none⟩ u) p off o :=
  ⟨cell_oth h.1 (by omega), cell_oth h.2.1 (by omega), cell_oth h.2.2.1 (by omega), cell_oth h.2.2.2 (by omega)⟩
/-- Four cells that are written. -/
def set4 (W : World) (p off : Nat) (v : Value) (a b c : Int) : World := (((W.setCell ⟨p, off, none⟩ v).setCell ⟨p, off + 1, none⟩ (.int .i64 a)).setCell ⟨p, off + 2, none⟩ (.int .i64 b)).setCell ⟨p, off + 3, none⟩ (.int .i64 c)
theorem ObAt.new {W : World} {p off : Nat} {o o' : Ov} (h : ObAt W p off o) : ObAt (set4 W p off (.slice o'.ao o'.l.length o'.cap) o'.a o'.b o'.c) p off o' := by
  obtain ⟨h0, h1, h2, h3⟩ := h
  refine ⟨cell_oth (cell_oth (cell_oth ?_ (by omega)) (by omega)) (by omega), cell_oth (cell_oth ?_ (by omega)) (by omega), cell_oth ?_ (by omega), ?_⟩
  · exact cell_same h0
  · exact cell_same (cell_oth h1 (by omega))
  · exact cell_same (cell_oth (cell_oth h2 (by omega)) (by omega))
  · exact cell_same (cell_oth (cell_oth (cell_oth h3 (by omega)) (by omega)) (by omega))
theorem There.grown {W W' : World} {p n g : Nat} (h : There W p n) (hg : W.grownBy W' (some g)) (hp : p < W.heap.size) (hne : p ≠ g) : There W' p n := fun j hj => by
  obtain ⟨v, hv⟩ := Option.isSome_iff_exists.1 (h j hj).1
  exact ⟨by rw [grown_cell hg hv hne]; rfl, grown_frozen hg (h j hj).2 hp hne⟩
theorem There.setc {W : World} {p n q i : Nat} {u : Value} (h : There W p n) : There (W.setCell ⟨q, i, none⟩ u) p n := h.set
/-- Siblings whose block is none of three. -/
structure RowO (W : World) (g p q : Nat) (o : Ov) : Prop where
  row : SibRow W o.ao o.l
  cap : o.l.length ≤ o.cap
  ne : ∀ x, o.ao = some x → o.l ≠ [] → x.block ≠ g ∧ x.block ≠ p ∧ x.block ≠ q
theorem row_by {W W' : World} {ao : Option Addr} {l : List Sib} {g : Nat} (h : SibRow W ao l) (hg : W.grownBy W' (some g)) (hne : ∀ x, ao = some x → l ≠ [] → x.block ≠ g) : SibRow W' ao l := by
  rcases h with h | ⟨b, off, rfl, h2⟩
  · exact .inl h
  · refine .inr ⟨b, off, rfl, fun i hi => ?_⟩
    have hb : b ≠ g := hne _ rfl (fun e => by subst e; simp at hi)
    exact ⟨grown_cell hg (h2 i hi).1 hb, grown_cell hg (h2 i hi).2.1 hb, grown_cell hg (h2 i hi).2.2.1 hb, grown_cell hg (h2 i hi).2.2.2 hb⟩
theorem row_set {W : World} {ao : Option Addr} {l : List Sib} {g i : Nat} {u : Value} (h : SibRow W ao l) (hne : ∀ x, ao = some x → l ≠ [] → x.block ≠ g) : SibRow (W.setCell ⟨g, i, none⟩ u) ao l := by
  rcases h with h | ⟨b, off, rfl, h2⟩
  · exact .inl h
  · refine .inr ⟨b, off, rfl, fun i hi => ?_⟩
    have hb : b ≠ g := hne _ rfl (fun e => by subst e; simp at hi)
    exact ⟨cell_set (h2 i hi).1 hb, cell_set (h2 i hi).2.1 hb, cell_set (h2 i hi).2.2.1 hb, cell_set (h2 i hi).2.2.2 hb⟩
theorem row_ltS {W : World} {ao : Option Addr} {l : List Sib} (h : SibRow W ao l) : ∀ x, ao = some x → l ≠ [] → x.block < W.heap.size := fun x hx hl => by
  rcases h with h | ⟨b, off, rfl, h2⟩
  · exact (hl h).elim
  · cases hx
    exact cell_lt (h2 0 (by cases l with | nil => exact (hl rfl).elim | cons => simp)).1
theorem row_code {W : World} {ao : Option Addr} {len cap q i : Nat} {zs : List Int} {u : Value} (hr : Gen.IsRow .u8 W ao len cap zs) (hold : ∀ x, ao = some x → 0 < cap → x.block ≠ q) : Gen.IsRow .u8 (W.setCell ⟨q, i, none⟩ u) ao len cap zs := by
  refine row_kept hr fun x j v hx hcap hcell => ?_
  rw [World.cell?_of_block (w := W) (Below.heap_setCell W ⟨q, i, none⟩ u _ (by rw [add_block]; exact hold x hx hcap))]
  exact hcell
/-- A row that a call hands back, new. -/
theorem rowO_own {W W' : World} {e : Nat} {v : Value} {l : List Sib} {g p q : Nat} {a b c : Int} (hG : Gro W W' (.slice none 0 0) v) (ho : W'.ownsRow 0 e 4 v l.length (flat l)) (h1 : g < W.heap.size) (h2 : p < W.heap.size) (h3 : q < W.heap.size) :
    ∃ ao cap, v = .slice ao l.length cap ∧ RowO W' g p q ⟨ao, cap, l, a, b, c⟩ := by
  obtain ⟨o, k, e, hr, _⟩ := owned_row ho
  subst e
  refine ⟨o, k, rfl, hr, ?_, fun x hx hl => ?_⟩
  · rcases ho.2 with ⟨h0, h1⟩ | ⟨g', cap', cur, h0, hb, hh, hnc, hm, hs, ht⟩
    · show l.length ≤ k
      omega
    · cases h0
      exact hnc
  · rcases ho.2 with ⟨h0, h1'⟩ | ⟨g', cap', cur, h0, hb, hh, hnc, hm, hs, ht⟩
    · exact (hl (List.length_eq_zero_iff.1 h1')).elim
    · cases h0
      cases hx
      have h4 := nb hG h1
      have h5 := nb hG h2
      have h6 := nb hG h3
      simp [Value.ownBlock] at h4 h5 h6
      exact ⟨h4, h5, h6⟩

def upd (o : Nat → Ov) (j : Nat) (x : Ov) : Nat → Ov := fun i => if i = j then x else o i
def updn (n : Nat → Int) (j : Nat) (x : Int) : Nat → Int := fun i => if i = j then x else n i
/-- What drawing replicas keeps: three of them, how many events each node has had. -/
structure QI (w wr : World) (g : Nat) (ao : Option Addr) (len cap : Nat) (zs : List Int) (k : Int) (V : Int → Int → Int × Bool) (m n : Nat → Int) (o : Nat → Ov) : Prop where
  src : ∃ s, SrcAt wr g ao len cap k s
  row : Gen.IsRow .u8 wr ao len cap zs
  ob : ∀ j, j < 3 → ObAt wr (w.heap.size + 1 + 1 + 1) (j * 4) (o j)
  th : There wr (w.heap.size + 1 + 1 + 1) 12
  cn : ∀ j, j < 3 → wr.cell? ⟨w.heap.size + 1 + 1 + 1 + 1, j, none⟩ = some (.int .i64 (n j))
  tc : There wr (w.heap.size + 1 + 1 + 1 + 1) 3
  ro : ∀ j, j < 3 → RowO wr g (w.heap.size + 1 + 1 + 1) (w.heap.size + 1 + 1 + 1 + 1) (o j)
  rp : ∀ j, j < 3 → Rp V (m 0) (m 1) (m 2) (o j).l (o j).a (o j).b (o j).c
  size : w.heap.size + 5 ≤ wr.heap.size
  grown : w.grownBy wr (some g)
section
variable {w wr w1 : World} {g : Nat} {ao : Option Addr} {len cap : Nat} {zs : List Int} {k k' : Int} {V V' : Int → Int → Int × Bool} {m m' n : Nat → Int} {o : Nat → Ov}
theorem QI.by (h : QI w wr g ao len cap zs k V m n o) (hgw : g < w.heap.size) (hS : ∃ s, SrcAt w1 g ao len cap k' s) (hR : Gen.IsRow .u8 w1 ao len cap zs) (hG : wr.grownBy w1 (some g)) : QI w w1 g ao len cap zs k' V m n o := by
  have hz := h.size
  exact ⟨hS, hR, fun j hj => (h.ob j hj).by hG (by omega), h.th.grown hG (by omega) (by omega), fun j hj => grown_cell hG (h.cn j hj) (by omega), h.tc.grown hG (by omega) (by omega), fun j hj => ⟨row_by (h.ro j hj).row hG (fun x hx hl => ((h.ro j hj).ne x hx hl).1), (h.ro j hj).cap, (h.ro j hj).ne⟩, h.rp, Nat.le_trans h.size hG.size, h.grown.trans hG⟩
theorem QI.below (h : QI w wr g ao len cap zs k V m n o) (hb : Below wr.heap.size wr w1) : QI w w1 g ao len cap zs k V m n o := by
  obtain ⟨s, hs⟩ := h.src
  have hz := h.size
  exact ⟨⟨s, hs.below hb⟩, row_below h.row hb, fun j hj => (h.ob j hj).next hb, h.th.next hb (by omega), fun j hj => cell_next hb (h.cn j hj) (cell_lt (h.cn j hj)), h.tc.next hb (by omega), fun j hj => ⟨(h.ro j hj).row.next hb, (h.ro j hj).cap, (h.ro j hj).ne⟩, h.rp, Nat.le_trans h.size hb.size, h.grown.trans ⟨hb.os, hb.tape, hb.output, hb.size, fun b hlt _ => hb.block b hlt⟩⟩
theorem QI.other (h : QI w wr g ao len cap zs k V m n o) (hgw : g < w.heap.size) (hold : ∀ x, ao = some x → 0 < cap → x.block < w.heap.size) {q i : Nat} {u : Value} (hq : w.heap.size + 5 ≤ q) (hne : ∀ j, j < 3 → ∀ x, (o j).ao = some x → (o j).l ≠ [] → x.block ≠ q) : QI w (wr.setCell ⟨q, i, none⟩ u) g ao len cap zs k V m n o := by
  obtain ⟨s, hs⟩ := h.src
  exact ⟨⟨s, hs.set (by omega)⟩, row_code h.row (fun x hx hc => by have := hold x hx hc; omega), fun j hj => (h.ob j hj).set (by omega), h.th.set, fun j hj => cell_set (h.cn j hj) (by omega), h.tc.set, fun j hj => ⟨row_set (h.ro j hj).row (hne j hj), (h.ro j hj).cap, (h.ro j hj).ne⟩, h.rp, by simpa [World.setCell] using h.size, grown_then h.grown (grown_set _ _ _ _) (fun j e => by cases e; exact .inl (by omega))⟩
theorem QI.count (h : QI w wr g ao len cap zs k V m n o) (hgw : g < w.heap.size) (hold : ∀ x, ao = some x → 0 < cap → x.block < w.heap.size) {i : Nat} {u : Int} (hi : i < 3) : QI w (wr.setCell ⟨w.heap.size + 1 + 1 + 1 + 1, i, none⟩ (.int .i64 u)) g ao len cap zs k V m (updn n i u) o := by
  obtain ⟨s, hs⟩ := h.src
  refine ⟨⟨s, hs.set (by omega)⟩, row_code h.row (fun x hx hc => by have := hold x hx hc; omega), fun j hj => (h.ob j hj).set (by omega), h.th.set, fun j hj => ?_, h.tc.set, fun j hj => ⟨row_set (h.ro j hj).row (fun x hx hl => ((h.ro j hj).ne x hx hl).2.2), (h.ro j hj).cap, (h.ro j hj).ne⟩, h.rp, by simpa [World.setCell] using h.size, grown_then h.grown (grown_set _ _ _ _) (fun j e => by cases e; exact .inl (by omega))⟩
  unfold updn
  by_cases e : j = i
  · rw [if_pos e, e]
    exact cell_same (h.cn i hi)
  · rw [if_neg e]
    exact cell_oth (h.cn j hj) e
theorem QI.store (h : QI w wr g ao len cap zs k V m n o) (hgw : g < w.heap.size) (hold : ∀ x, ao = some x → 0 < cap → x.block < w.heap.size) {i : Nat} (o' : Ov) (hi : i < 3) (hro : RowO wr g (w.heap.size + 1 + 1 + 1) (w.heap.size + 1 + 1 + 1 + 1) o') (hrp : ∀ j, j < 3 → Rp V' (m' 0) (m' 1) (m' 2) (upd o i o' j).l (upd o i o' j).a (upd o i o' j).b (upd o i o' j).c) :
    QI w (set4 wr (w.heap.size + 1 + 1 + 1) (i * 4) (.slice o'.ao o'.l.length o'.cap) o'.a o'.b o'.c) g ao len cap zs k V' m' n (upd o i o') := by
  obtain ⟨s, hs⟩ := h.src
  have R4 : ∀ x : Ov, RowO wr g (w.heap.size + 1 + 1 + 1) (w.heap.size + 1 + 1 + 1 + 1) x → RowO (set4 wr (w.heap.size + 1 + 1 + 1) (i * 4) (.slice o'.ao o'.l.length o'.cap) o'.a o'.b o'.c) g (w.heap.size + 1 + 1 + 1) (w.heap.size + 1 + 1 + 1 + 1) x := fun x hx => by
    have hn := fun y hy hl => (hx.ne y hy hl).2.1
    exact ⟨row_set (row_set (row_set (row_set hx.row hn) hn) hn) hn, hx.cap, hx.ne⟩
  refine ⟨⟨s, (((hs.set (by omega)).set (by omega)).set (by omega)).set (by omega)⟩, ?_, fun j hj => ?_, h.th.set.set.set.set, fun j hj => ?_, h.tc.set.set.set.set, fun j hj => ?_, hrp, by simpa [set4, World.setCell] using h.size, ?_⟩
  · have hn : ∀ x, ao = some x → 0 < cap → x.block ≠ w.heap.size + 1 + 1 + 1 := fun x hx hc => by have := hold x hx hc; omega
    exact row_code (row_code (row_code (row_code h.row hn) hn) hn) hn
  · unfold upd
    by_cases e : j = i
    · rw [if_pos e, e]
      exact (h.ob i hi).new
    · rw [if_neg e]
      exact (((((h.ob j hj).off (by omega)).off (by omega)).off (by omega)).off (by omega))
  · exact cell_set (cell_set (cell_set (cell_set (h.cn j hj) (by omega)) (by omega)) (by omega)) (by omega)
  · unfold upd
    by_cases e : j = i
    · rw [if_pos e]
      exact R4 o' hro
    · rw [if_neg e]
      exact R4 _ (h.ro j hj)
  · exact grown_then (grown_then (grown_then (grown_then h.grown (grown_set _ _ _ _) (fun j e => by cases e; exact .inl (by omega))) (grown_set _ _ _ _) (fun j e => by cases e; exact .inl (by omega))) (grown_set _ _ _ _) (fun j e => by cases e; exact .inl (by omega))) (grown_set _ _ _ _) (fun j e => by cases e; exact .inl (by omega))
end
end Go.Proofs.YtcmniplbiliobaaDoor

/- The kit: cells, boxes, rows that are read, rows that are owned, marks. -/
import Derived.Test.YtdepclilngaacaaDoorRows
import Derived.WalkKit
import Derived.WalkSpells
import Derived.WalkLawsBesides
import Derived.Deep.QuietTactic
import Derived.BigQuiet
import Derived.Deep.RegionHeld3
import Derived.LoopN
import Derived.OwnWalk
import Derived.Laws.OwnMore
import Derived.Laws.StructEq
import Derived.Deep.AppendSrc
import Derived.Deep.Upon
import Derived.Deep.Cut
import Derived.RegionTactic
import Derived.BigRegion
namespace Go.Proofs.YtdepclilngaacaaDoor
open Go.RowKit
set_option linter.unusedSimpArgs false
set_option linter.unusedVariables false

theorem ret_bool {a b : Bool} (h : a = b) : Ending.returned (.bool a) = .returned (.bool b) := by rw [h]
theorem ret_int {k : IntKind} {a b : Int} (h : a = b) : Ending.returned (.int k a) = .returned (.int k b) := by rw [h]
theorem ret_ints {a b c d : Int} (h : a = b) (k : c = d) : Ending.returned (.tuple #[.int .i64 a, .int .i64 c]) = .returned (.tuple #[.int .i64 b, .int .i64 d]) := by rw [h, k]
theorem ret_bint {a b : Bool} {c d : Int} (h : a = b) (k : c = d) : Ending.returned (.tuple #[.bool a, .int .i64 c]) = .returned (.tuple #[.bool b, .int .i64 d]) := by rw [h, k]
theorem ret_vint {a b c a' b' c' : Int} {r r' : Int} (h : a = a') (k : b = b') (l : c = c') (m : r = r') : Ending.returned (.tuple #[.agg #[.int .i64 a, .int .i64 b, .int .i64 c], .int .i64 r]) = .returned (.tuple #[.agg #[.int .i64 a', .int .i64 b', .int .i64 c'], .int .i64 r']) := by rw [h, k, l, m]
theorem ret_v {a b c a' b' c' : Int} (h : a = a') (k : b = b') (l : c = c') : Ending.returned (.agg #[.int .i64 a, .int .i64 b, .int .i64 c]) = .returned (.agg #[.int .i64 a', .int .i64 b', .int .i64 c']) := by rw [h, k, l]
theorem bcell {W w1 : World} (hb : Below W.heap.size W w1) : (∀ b o, b < W.heap.size → w1.cell? ⟨b, o, none⟩ = W.cell? ⟨b, o, none⟩) ∧ (∀ b o, b < W.heap.size → w1.frozen? ⟨b, o, none⟩ = W.frozen? ⟨b, o, none⟩) :=
  ⟨fun b o h => hb.cell (p := ⟨b, o, none⟩) h, fun b o h => hb.frozen (p := ⟨b, o, none⟩) h⟩
theorem cell_next {W w1 : World} (hb : Below W.heap.size W w1) {b o : Nat} {v : Value} (h : W.cell? ⟨b, o, none⟩ = some v) (hs : b < W.heap.size) : w1.cell? ⟨b, o, none⟩ = some v := by
  rw [hb.cell (p := ⟨b, o, none⟩) hs]; exact h
theorem cell_set {W : World} {b o t j : Nat} {v u : Value} (h : W.cell? ⟨b, o, none⟩ = some v) (hne : b ≠ t) : (W.setCell ⟨t, j, none⟩ u).cell? ⟨b, o, none⟩ = some v := by
  rw [World.cell?_of_block (w := W) (Below.heap_setCell W ⟨t, j, none⟩ u b (by simpa using hne))]; exact h
theorem frozen_next {W w1 : World} (hb : Below W.heap.size W w1) {b o : Nat} (h : W.frozen? ⟨b, o, none⟩ = false) (hs : b < W.heap.size) : w1.frozen? ⟨b, o, none⟩ = false := by
  rw [hb.frozen (p := ⟨b, o, none⟩) hs]; exact h
/-- Cells that are there and may be written. -/
def There (w : World) (g n : Nat) : Prop := ∀ j, j < n → (w.cell? ⟨g, j, none⟩).isSome = true ∧ w.frozen? ⟨g, j, none⟩ = false

theorem cell_off {W : World} {b i j : Nat} {u : Value} (h : i ≠ j) : (W.setCell ⟨b, i, none⟩ u).cell? ⟨b, j, none⟩ = W.cell? ⟨b, j, none⟩ :=
 World.cell?_setCell_other W _ _ u (fun e => h (by cases e; rfl))

theorem cell_blk {W : World} {b c i j : Nat} {u : Value} (h : b ≠ c) : (W.setCell ⟨b, i, none⟩ u).cell? ⟨c, j, none⟩ = W.cell? ⟨c, j, none⟩ :=
 World.cell?_setCell_other W _ _ u (fun e => h (by cases e; rfl))

theorem cell_here {W : World} {b i : Nat} {u : Value} (h : (W.cell? ⟨b, i, none⟩).isSome = true) : (W.setCell ⟨b, i, none⟩ u).cell? ⟨b, i, none⟩ = some u := by
 obtain ⟨v, hv⟩ := Option.isSome_iff_exists.1 h
 exact World.cell?_setCell_same W _ u hv

theorem There.set {W : World} {g n b i : Nat} {u : Value} (h : There W g n) : There (W.setCell ⟨b, i, none⟩ u) g n := fun j hj => by
 refine ⟨?_, by rw [World.frozen?_setCell]; exact (h j hj).2⟩
 obtain ⟨v, hv⟩ := Option.isSome_iff_exists.1 (h j hj).1
 obtain ⟨v', hv'⟩ := cell?_setCell_some (p := ⟨b, i, none⟩) (x := u) hv
 rw [hv']; rfl

theorem There.next {W w1 : World} {g n : Nat} (hb : Below W.heap.size W w1) (hg : g < W.heap.size) (h : There W g n) : There w1 g n := fun j hj => by
 obtain ⟨h1, h2⟩ := h j hj
 exact ⟨by rw [hb.cell (p := ⟨g, j, none⟩) hg]; exact h1, by rw [hb.frozen (p := ⟨g, j, none⟩) hg]; exact h2⟩

theorem cell_lt {W : World} {x : Addr} {v : Value} (h : W.cell? x = some v) : x.block < W.heap.size := by
 rcases Nat.lt_or_ge x.block W.heap.size with h' | h'
 ·exact h'
 ·simp [World.cell?, Array.getElem?_eq_none h'] at h

theorem bel_next {w W W' : World} (h : Hid (Below w.heap.size w W)) (hb : Below W.heap.size W W') : Hid (Below w.heap.size w W') := h.out.trans (hb.mono h.out.size)
theorem bel_alloc (W : World) (o : Obj) : Below W.heap.size W (W.alloc o) := (Below.refl _ _).alloc (Nat.le_refl _) _
theorem bel_drew (W : World) : Below W.heap.size W W.drew := (Below.refl _ _).drew
theorem bool_no {r : Bool} {P : Prop} (h : Hid (r = true ↔ P)) (hn : ¬ P) : r = false := by
 cases r
 ·rfl
 ·exact (hn (h.out.1 rfl)).elim

theorem bool_yes {r : Bool} {P : Prop} (h : Hid (r = true ↔ P)) (hp : P) : r = true := h.out.2 hp

theorem own_base {w : World} {base base' e size n : Nat} {v : Value} {xs : List Value} (h : w.ownsRow base e size v n xs) (hk : ∀ k, v.ownBlock = some k → base' ≤ k) : w.ownsRow base' e size v n xs := by
 refine ⟨h.1, ?_⟩
 rcases h.2 with h' | ⟨g, cap, cur, rfl, hb, r⟩
 ·exact .inl h'
 ·exact .inr ⟨g, cap, cur, rfl, hk g rfl, r⟩
/-- The world grows; of old blocks only the row's may be written; the row's block then is the old one or a new one. -/
structure Gro (w w' : World) (v v' : Value) : Prop where
 grown : w.grownBy w' v.ownBlock
 fresh : ∀ k, v'.ownBlock = some k → v.ownBlock = some k ∨ w.heap.size ≤ k
theorem Gro.refl (w : World) (v : Value) : Gro w w v v := ⟨⟨rfl, rfl, rfl, Nat.le_refl _, fun _ _ _ => rfl⟩, fun _ h => .inl h⟩
theorem Gro.trans {w w1 w2 : World} {v v1 v2 : Value} (h : Gro w w1 v v1) (k : Gro w1 w2 v1 v2) : Gro w w2 v v2 := by
 refine ⟨⟨k.grown.os.trans h.grown.os, k.grown.tape.trans h.grown.tape, k.grown.output.trans h.grown.output, Nat.le_trans h.grown.size k.grown.size, fun b hb hne => ?_⟩, fun b hb => ?_⟩
 ·refine (k.grown.block b (Nat.lt_of_lt_of_le hb h.grown.size) (fun e => ?_)).trans (h.grown.block b hb hne)
  rcases h.fresh b e.symm with q | q
  ·exact hne q.symm
  ·omega
 ·rcases k.fresh b hb with q | q
  ·exact h.fresh b q
  ·exact .inr (Nat.le_trans h.grown.size q)
theorem Gro.of_below {w w' : World} {v : Value} (hb : Below w.heap.size w w') : Gro w w' v v := ⟨⟨hb.os, hb.tape, hb.output, hb.size, fun b h _ => hb.block b h⟩, fun _ h => .inl h⟩
theorem Gro.size {w w' : World} {v v' : Value} (h : Gro w w' v v') : w.heap.size ≤ w'.heap.size := h.grown.size
theorem Gro.below {w w' : World} {v v' : Value} {base : Nat} (h : Gro w w' v v') (hb : base ≤ w.heap.size) (hv : ∀ k, v.ownBlock = some k → base ≤ k) : Below base w w' :=
 ⟨h.grown.os, h.grown.tape, h.grown.output, h.grown.size, fun b hk => h.grown.block b (by omega) (fun e => by have := hv b e.symm; omega)⟩
theorem Gro.cell {w w' : World} {v v' : Value} (h : Gro w w' v v') {b o : Nat} {u : Value} (hc : w.cell? ⟨b, o, none⟩ = some u) (hne : v.ownBlock ≠ some b) : w'.cell? ⟨b, o, none⟩ = some u :=
 h.grown.cell hc (fun e => hne e.symm)
theorem Gro.ne {w w' : World} {v v' : Value} (h : Gro w w' v v') {b : Nat} (hb : b < w.heap.size) (hne : v.ownBlock ≠ some b) : v'.ownBlock ≠ some b := fun e => by
 rcases h.fresh b e with q | q
 ·exact hne q
 ·omega
theorem own_next {w w' : World} {base e size n : Nat} {v : Value} {xs : List Value} (h : w.ownsRow base e size v n xs) (hb : Below w.heap.size w w') : w'.ownsRow base e size v n xs := by
 refine ⟨h.1, ?_⟩
 rcases h.2 with h' | ⟨g, cap, cur, rfl, hg, hh, r⟩
 ·exact .inl h'
 ·refine .inr ⟨g, cap, cur, rfl, hg, ?_, r⟩
  rw [hb.block g (by
   rcases Nat.lt_or_ge g w.heap.size with h' | h'
   ·exact h'
   ·rw [Array.getElem?_eq_none h'] at hh; cases hh)]
  exact hh
section
variable {P : Program}
theorem run_append2 (w : World) (t ty e : TypeId) (i : TypeInfo) (z : Value) (size bytes : Nat) (ht : P.underlying t = some (.slice e)) (hi : P.info? e = some i) (hz : i.zero = some z)
  (hsize : i.size = size) (hby : i.bytes = bytes) (hzs : z.cells.size = size) (hsz : 0 < size)
  (v : Value) (n : Nat) (xs : List Value) (hown : w.ownsRow 0 e size v n xs)
  (a : Addr) (m c : Nat) (news : List Value) (hl : news.length = m * size) (hnews : ∀ j u, news[j]? = some u → w.cell? (a.add j) = some u) (h1 : ∀ u ∈ news, u.oneCell' = true)
  (h63 : n + m ≤ maxLen) (hbytes : (n + m) * bytes ≤ 140737488355328) :
  ∃ v' w', (Builtin.append_ #[t, t] ty #[v, .slice (some a) m c]).run P w = .ok v' w' ∧ w'.ownsRow 0 e size v' (n + m) (xs ++ news) ∧ Gro w w' v v' := by
 rcases hown.2 with ⟨rfl, rfl⟩ | ⟨g, cap, cur, rfl, hbg, hg, hnc, hcm, hcs, htake⟩
 ·have hx : xs = [] := List.eq_nil_of_length_eq_zero (by simpa using hown.1)
  subst hx
  obtain ⟨v', w', r1, r2, r3, _⟩ := run_append_own (P := P) w w.heap.size t ty e i z size bytes ht hi hz hsize hby hzs hsz _ 0 [] (World.ownsRow_nil w w.heap.size e size) a m c news hl hnews h1 h63 hbytes (Nat.le_refl _)
  exact ⟨v', w', r1, own_base r2 (fun _ _ => Nat.zero_le _), r3, fun k hk => .inr (r2.lt k hk).1⟩
 ·by_cases hroom : n + m ≤ cap
  ·obtain ⟨w', r1, r2, r3⟩ := run_append_fits (P := P) w 0 t ty e i size ht hi hsize g n cap xs hown a m c news hl hnews h1 hroom
   exact ⟨_, w', r1, r2, r3, fun k hk => .inl hk⟩
  ·obtain ⟨v', w', r1, r2, r3, _⟩ := run_append_own (P := P) w 0 t ty e i z size bytes ht hi hz hsize hby hzs hsz _ n xs hown a m c news hl hnews h1 h63 hbytes (Nat.zero_le _)
   subst hsize
   subst hby
   have hsmall : n + m ≤ 9223372036854775807 := by simp only [maxLen] at h63; omega
   have holds : ∀ j u, xs[j]? = some u → w.cell? ((⟨g, 0, none⟩ : Addr).add j) = some u := hown.cells (g := g) rfl
   have hr := run_append_grow (P := P) w t ty e i z ht hi hz ⟨g, 0, none⟩ n cap xs hown.1 holds a m c news hl hnews (by omega) (by omega) (growslice_fits (by omega) hbytes)
   rw [hr] at r1
   cases r1
   exact ⟨_, _, hr, r2, r3, fun k hk => .inr (by simp [Value.ownBlock] at hk; omega)⟩
theorem wpList_append2 {w : World} {ops : Array Oper} {rest : List Oper} {o : Oper} {a : Act} {Q : Exit → Act → World → Prop} (hgd : o.guard = none) (s x : Operand) (t : TypeId)
  (ho : o.op = .call { callee := .builtin .append, args := #[s, x], argTypes := #[t, t] })
  (e : TypeId) (i : TypeInfo) (z : Value) (size bytes : Nat) (ht : P.underlying t = some (.slice e)) (hi : P.info? e = some i) (hz : i.zero = some z)
  (hsize : i.size = size) (hby : i.bytes = bytes) (hzs : z.cells.size = size) (hsz : 0 < size)
  (v : Value) (n : Nat) (xs : List Value) (hs : a.eval s = v) (hown : w.ownsRow 0 e size v n xs)
  (ad : Addr) (m c : Nat) (news : List Value) (hx : a.eval x = .slice (some ad) m c) (hl : news.length = m * size) (hnews : ∀ j u, news[j]? = some u → w.cell? (ad.add j) = some u) (h1 : ∀ u ∈ news, u.oneCell' = true)
  (h63 : n + m ≤ maxLen) (hbytes : (n + m) * bytes ≤ 140737488355328)
  (h : ∀ v' w', w'.ownsRow 0 e size v' (n + m) (xs ++ news) → Gro w w' v v' → wpList P ops Q rest (a.put o.dst v') w') : wpList P ops Q (o :: rest) a w :=
 wpList_plain hgd fun _ hK => by
  obtain ⟨v', w', hr, h2, h3⟩ := run_append2 (P := P) w t o.type e i z size bytes ht hi hz hsize hby hzs hsz v n xs hown ad m c news hl hnews h1 h63 hbytes
  unfold Oper.wp execOp
  simp only [ho, resolve, invoke, builtin, Sem.run_bind, Sem.run_pure, Result.andThen_ok, List.map_toArray, List.map_cons, List.map_nil, hs, hx, hr]
  exact hK _ _ (h v' w' h2 h3)


end
theorem addr_add (b o j : Nat) : ((⟨b, o, none⟩ : Addr).add j) = ⟨b, o + j, none⟩ := by
 unfold Addr.add
 by_cases hk : j = 0 <;> simp [hk]
theorem Gro.none_ne {b : Nat} : Value.ownBlock (.slice none 0 0) ≠ some b := by simp [Value.ownBlock]
theorem info_parts {i : Option TypeInfo} {z : Option Value} {a b : Nat} (h : i.map (fun i => (i.zero, i.size, i.bytes)) = some (z, a, b)) : ∃ i0, i = some i0 ∧ i0.zero = z ∧ i0.size = a ∧ i0.bytes = b := by
 cases i with
 | none => cases h
 | some i0 => simp at h; exact ⟨i0, rfl, h.1, h.2.1, h.2.2⟩
/-- All blocks from lo on that were there are as they were. -/
def Kept (lo : Nat) (w w' : World) : Prop := ∀ b, lo ≤ b → b < w.heap.size → w'.heap[b]? = w.heap[b]?
theorem Kept.refl (lo : Nat) (w : World) : Kept lo w w := fun _ _ _ => rfl
theorem kept_below {lo : Nat} {w w' : World} (h : Below w.heap.size w w') : Kept lo w w' := fun b _ hb => h.block b hb
theorem kept_grown {lo g : Nat} {w w' : World} (h : w.grownBy w' (some g)) (hg : g < lo) : Kept lo w w' := fun b hl hb => h.block b hb (fun e => by cases e; omega)
theorem kept_set {lo q i : Nat} {w : World} {u : Value} (hq : q < lo) : Kept lo w (w.setCell ⟨q, i, none⟩ u) := fun b hl hb => Below.heap_setCell w ⟨q, i, none⟩ u b (by simp; omega)
theorem Kept.cell {lo b o : Nat} {w w' : World} {v : Value} (h : Kept lo w w') (hl : lo ≤ b) (hc : w.cell? ⟨b, o, none⟩ = some v) : w'.cell? ⟨b, o, none⟩ = some v := by
 rw [World.cell?_of_block (w := w) (h b hl (cell_lt (x := ⟨b, o, none⟩) hc))]
 exact hc
theorem Kept.trans {lo : Nat} {w w1 w2 : World} (h : Kept lo w w1) (k : Kept lo w1 w2) (hs : w.heap.size ≤ w1.heap.size) : Kept lo w w2 := fun b hl hb => (k b hl (by omega)).trans (h b hl hb)
/-- Cells in a row, in a block from lo on; nothing is said of no cells. -/
def GRow (lo : Nat) (w : World) (p : Option Addr) (vs : List Value) : Prop := vs = [] ∨ ∃ b off, p = some ⟨b, off, none⟩ ∧ lo ≤ b ∧ ∀ j (h : j < vs.length), w.cell? ⟨b, off + j, none⟩ = some vs[j]
theorem GRow.keep {lo : Nat} {w w' : World} {p : Option Addr} {vs : List Value} (h : GRow lo w p vs) (hk : Kept lo w w') : GRow lo w' p vs := by
 rcases h with h | ⟨b, off, h1, h2, h3⟩
 ·exact .inl h
 ·exact .inr ⟨b, off, h1, h2, fun j hj => hk.cell h2 (h3 j hj)⟩
theorem GRow.next {lo : Nat} {w w' : World} {p : Option Addr} {vs : List Value} (h : GRow lo w p vs) (hb : Below w.heap.size w w') : GRow lo w' p vs := h.keep (kept_below hb)
theorem GRow.weak {lo lo' : Nat} {w : World} {p : Option Addr} {vs : List Value} (h : GRow lo w p vs) (hl : lo' ≤ lo) : GRow lo' w p vs := by
 rcases h with h | ⟨b, off, h1, h2, h3⟩
 ·exact .inl h
 ·exact .inr ⟨b, off, h1, Nat.le_trans hl h2, h3⟩
theorem GRow.lt {lo : Nat} {w : World} {b off : Nat} {vs : List Value} (h : ∀ j (h : j < vs.length), w.cell? ⟨b, off + j, none⟩ = some vs[j]) (hn : vs ≠ []) : b < w.heap.size := cell_lt (x := ⟨b, off + 0, none⟩) (h 0 (List.length_pos_iff.2 hn))
theorem own_grow {lo e size n : Nat} {w : World} {v : Value} {vs : List Value} (h : w.ownsRow 0 e size v n vs) (hl : ∀ k, v.ownBlock = some k → lo ≤ k) : ∃ p c, v = .slice p n c ∧ n ≤ c ∧ GRow lo w p vs := by
 have hq := h
 rcases h.2 with ⟨rfl, hn⟩ | ⟨g, cap, cur, rfl, _, hh, hc, hx⟩
 ·refine ⟨none, 0, by rw [hn], by omega, .inl ?_⟩
  have := h.1
  rw [hn] at this
  simpa using this
 ·refine ⟨_, _, rfl, hc, .inr ⟨g, 0, rfl, hl g rfl, fun j hj => ?_⟩⟩
  have hj2 := hj
  rw [h.1] at hj2
  rw [Nat.zero_add, hq.cellAt j hj2, List.getElem?_eq_getElem hj]
theorem GRow.at {lo : Nat} {w : World} {b off : Nat} {vs : List Value} (h : ∀ j (h : j < vs.length), w.cell? ⟨b, off + j, none⟩ = some vs[j]) {i : Nat} {v : Value} (hv : vs[i]? = some v) : w.cell? ⟨b, off + i, none⟩ = some v := by
 obtain ⟨hi, e⟩ := List.getElem?_eq_some_iff.1 hv
 rw [h i hi, e]
/-- A row that is owned, in blocks from lo on. -/
structure OwnG (W : World) (e size : Nat) (v : Value) (n : Nat) (xs : List Value) (lo : Nat) : Prop where
 own : W.ownsRow 0 e size v n xs
 ge : ∀ k, v.ownBlock = some k → lo ≤ k
theorem OwnG.next {W W' : World} {e size n lo : Nat} {v : Value} {xs : List Value} (h : OwnG W e size v n xs lo) (hb : Below W.heap.size W W') : OwnG W' e size v n xs lo := ⟨own_next h.own hb, h.ge⟩
theorem OwnG.weak {W : World} {e size n lo lo' : Nat} {v : Value} {xs : List Value} (h : OwnG W e size v n xs lo) (hl : lo' ≤ lo) : OwnG W e size v n xs lo' := ⟨h.own, fun k hk => Nat.le_trans hl (h.ge k hk)⟩
theorem OwnG.grow {W : World} {e size n lo : Nat} {v : Value} {xs : List Value} (h : OwnG W e size v n xs lo) : ∃ p c, v = .slice p n c ∧ n ≤ c ∧ GRow lo W p xs := own_grow h.own h.ge
theorem OwnG.lt {W : World} {e size n lo : Nat} {v : Value} {xs : List Value} (h : OwnG W e size v n xs lo) : ∀ k, v.ownBlock = some k → lo ≤ k ∧ k < W.heap.size := fun k hk => ⟨h.ge k hk, (h.own.lt k hk).2⟩
theorem OwnG.nil (W : World) (e size lo : Nat) : OwnG W e size (.slice none 0 0) 0 [] lo := ⟨World.ownsRow_nil W 0 e size, fun k hk => absurd hk Gro.none_ne⟩
theorem OwnG.lit {W : World} {e size lo : Nat} (h : lo ≤ W.heap.size) : OwnG (W.alloc (.cells #[] e)) e size (.slice (some ⟨W.heap.size, 0, none⟩) 0 0) 0 [] lo :=
 ⟨World.ownsRow_lit (base := 0) (e := e) (size := size) W #[] 0 (Nat.zero_le _) (by unfold maxLen; omega) (by simp), fun k hk => by simp [Value.ownBlock] at hk; omega⟩
theorem OwnG.apart {W W' : World} {e size n lo : Nat} {v u u' : Value} {xs : List Value} (h : OwnG W e size v n xs lo) (hne : ∀ k, v.ownBlock = some k → u.ownBlock ≠ some k) (hg : Gro W W' u u') : OwnG W' e size v n xs lo := by
 refine ⟨⟨h.own.1, ?_⟩, h.ge⟩
 rcases h.own.2 with h' | ⟨g, cap, cur, rfl, hb, hh, r⟩
 ·exact .inl h'
 ·refine .inr ⟨g, cap, cur, rfl, hb, ?_, r⟩
  have hlt : g < W.heap.size := (h.own.lt g rfl).2
  rw [hg.grown.block g hlt (fun e => hne g rfl e.symm)]
  exact hh
theorem GRow.gro {lo : Nat} {W W' : World} {p : Option Addr} {vs : List Value} {u u' : Value} (h : GRow lo W p vs) (hg : Gro W W' u u') (hu : ∀ k, u.ownBlock = some k → ∀ x, p = some x → vs ≠ [] → x.block ≠ k) : GRow lo W' p vs := by
 rcases h with h | ⟨b, off, h1, h2, h3⟩
 ·exact .inl h
 ·by_cases hv : vs = []
  ·exact .inl hv
  ·refine .inr ⟨b, off, h1, h2, fun j hj => ?_⟩
   refine hg.cell (h3 j hj) (fun e => hu b e _ h1 hv rfl)
theorem kept_gro {lo : Nat} {W W' : World} {u u' : Value} (hg : Gro W W' u u') (hu : ∀ k, u.ownBlock = some k → k < lo) : Kept lo W W' := fun b hl hb => hg.grown.block b hb (fun e => by have := hu b e.symm; omega)
/-- What the program says of the elements of a slice. -/
structure ElemT (P : Program) (t e size bytes : Nat) : Prop where
 ut : P.underlying t = some (.slice e)
 inf : ∃ i z, P.info? e = some i ∧ i.zero = some z ∧ i.size = size ∧ i.bytes = bytes ∧ z.cells.size = size
 pos : 0 < size
 small : bytes ≤ 1000
section
variable {P : Program} {t e size bytes : Nat}
theorem run_appG (T : ElemT P t e size bytes) (W : World) (ty : TypeId) (v : Value) (n : Nat) (xs : List Value) (lo tt : Nat) (hO : OwnG W e size v n xs lo) (hlo : lo ≤ W.heap.size) (ao : Option Addr) (m c : Nat) (ms : List Value) (hm : ms.length = m * size) (h1 : ∀ u ∈ ms, u.oneCell' = true) (l2 : Nat) (hsrc : GRow l2 W ao ms) (h20 : n + m ≤ 4194304) (htt : tt = n + m) :
  ∃ vo vc w', (Builtin.append_ #[t, t] ty #[v, .slice ao m c]).run P W = .ok (.slice vo tt vc) w' ∧ OwnG w' e size (.slice vo tt vc) tt (xs ++ ms) lo ∧ Gro W w' v (.slice vo tt vc) ∧ (∀ k, v.ownBlock = some k → ∃ k', (Value.slice vo tt vc).ownBlock = some k') := by
 subst htt
 obtain ⟨i, z, hi, hz, hs, hby, hzs⟩ := T.inf
 have hp := T.pos
 have hml : n + m ≤ maxLen := by unfold maxLen; omega
 have hbb : (n + m) * bytes ≤ 140737488355328 := Nat.le_trans (Nat.mul_le_mul h20 T.small) (by decide)
 have main : ∃ v' w', (Builtin.append_ #[t, t] ty #[v, .slice ao m c]).run P W = .ok v' w' ∧ w'.ownsRow 0 e size v' (n + m) (xs ++ ms) ∧ Gro W w' v v' ∧ (m = 0 → v' = v) := by
  by_cases hl : ms = []
  ·subst hl
   have hm0 : m = 0 := by
    rcases Nat.eq_zero_or_pos m with h | h
    ·exact h
    ·have := Nat.mul_pos h hp; simp at hm; omega
   subst hm0
   have hsr : Src P i.size t (.slice ao 0 c) 0 [] W := by
    cases ao with
    | none => exact Src.ofNil W T.ut c
    | some ad => exact Src.ofSlice W T.ut ad 0 c [] (by simp) (fun j u h => by simp at h) (fun u h => by cases h)
   have ho := hO.own
   rcases ho.2 with ⟨rfl, h0⟩ | ⟨g, cap, cur, rfl, _, _, hnc, _⟩
   ·subst h0
    exact ⟨_, _, run_append_nothing W t t ty e i T.ut hi none 0 0 (Nat.le_refl _) _ hsr, by simpa using ho, Gro.refl _ _, fun _ => rfl⟩
   ·exact ⟨_, _, run_append_nothing W t t ty e i T.ut hi _ n cap hnc _ hsr, by simpa using ho, Gro.refl _ _, fun _ => rfl⟩
  ·rcases hsrc with h | ⟨b, off, rfl, _, h2⟩
   ·exact (hl h).elim
   ·obtain ⟨v', w', r1, r2, r3⟩ := run_append2 (P := P) W t ty e i z size bytes T.ut hi hz hs hby hzs hp v n xs hO.own ⟨b, off, none⟩ m c ms hm (fun j u hu => by
     obtain ⟨hj, e⟩ := List.getElem?_eq_some_iff.1 hu
     have := h2 j hj
     rw [e] at this
     rw [addr_add]
     exact this) h1 hml hbb
    refine ⟨v', w', r1, r2, r3, fun h => ?_⟩
    subst h
    simp at hm
    exact (hl hm).elim
 obtain ⟨v', w', hr, ho, hg, he⟩ := main
 obtain ⟨vo, vc, rfl⟩ : ∃ vo vc, v' = .slice vo (n + m) vc := by
  rcases ho.2 with ⟨rfl, h0⟩ | ⟨k, cap, cur, rfl, _⟩
  ·exact ⟨none, 0, by rw [h0]⟩
  ·exact ⟨_, _, rfl⟩
 refine ⟨vo, vc, w', hr, ⟨ho, fun k hk => ?_⟩, hg, fun k hk => ?_⟩
 ·rcases hg.fresh k hk with h' | h'
  ·exact hO.ge k h'
  ·omega
 ·rcases ho.2 with ⟨h', h0⟩ | ⟨k2, cap, cur, h', _⟩
  ·have : m = 0 := by omega
   rw [he this]
   exact ⟨k, hk⟩
  ·rw [h']
   exact ⟨k2, rfl⟩
theorem wp_appG (T : ElemT P t e size bytes) {W : World} {o : Oper} {a : Act} {K : Act → World → Prop} {Q : Exit → Act → World → Prop} (s x : Operand)
  (ho : o.op = .call { callee := .builtin .append, args := #[s, x], argTypes := #[t, t] })
  (v : Value) (n : Nat) (xs : List Value) (lo tt : Nat) (hs : a.eval s = v) (hO : OwnG W e size v n xs lo) (hlo : lo ≤ W.heap.size) (ao : Option Addr) (m c : Nat) (ms : List Value) (hx : a.eval x = .slice ao m c) (hm : ms.length = m * size) (h1 : ∀ u ∈ ms, u.oneCell' = true) (l2 : Nat) (hsrc : GRow l2 W ao ms) (h20 : n + m ≤ 4194304) (htt : tt = n + m)
  (h : ∀ vo vc w', OwnG w' e size (.slice vo tt vc) tt (xs ++ ms) lo → Gro W w' v (.slice vo tt vc) → (∀ k, v.ownBlock = some k → ∃ k', (Value.slice vo tt vc).ownBlock = some k') → K (a.put o.dst (.slice vo tt vc)) w') : o.wp P a W K Q := by
 obtain ⟨vo, vc, w', hr, h2, h3, h4⟩ := run_appG T W o.type v n xs lo tt hO hlo ao m c ms hm h1 l2 hsrc h20 htt
 unfold Oper.wp execOp
 simp only [ho, resolve, invoke, builtin, Sem.run_bind, Sem.run_pure, Result.andThen_ok, List.map_toArray, List.map_cons, List.map_nil, hs, hx, hr]
 exact h vo vc w' h2 h3 h4
theorem wpList_appG (T : ElemT P t e size bytes) {W : World} {ops : Array Oper} {rest : List Oper} {o : Oper} {a : Act} {Q : Exit → Act → World → Prop} (hgd : o.guard = none) (s x : Operand)
  (ho : o.op = .call { callee := .builtin .append, args := #[s, x], argTypes := #[t, t] })
  (v : Value) (n : Nat) (xs : List Value) (lo tt : Nat) (hs : a.eval s = v) (hO : OwnG W e size v n xs lo) (hlo : lo ≤ W.heap.size) (ao : Option Addr) (m c : Nat) (ms : List Value) (hx : a.eval x = .slice ao m c) (hm : ms.length = m * size) (h1 : ∀ u ∈ ms, u.oneCell' = true) (l2 : Nat) (hsrc : GRow l2 W ao ms) (h20 : n + m ≤ 4194304) (htt : tt = n + m)
  (h : ∀ vo vc w', OwnG w' e size (.slice vo tt vc) tt (xs ++ ms) lo → Gro W w' v (.slice vo tt vc) → (∀ k, v.ownBlock = some k → ∃ k', (Value.slice vo tt vc).ownBlock = some k') → wpList P ops Q rest (a.put o.dst (.slice vo tt vc)) w') : wpList P ops Q (o :: rest) a W :=
 wpList_plain hgd fun _ hK => wp_appG T s x ho v n xs lo tt hs hO hlo ao m c ms hx hm h1 l2 hsrc h20 htt (fun vo vc w' h2 h3 h4 => hK _ _ (h vo vc w' h2 h3 h4))
end
/-- A block of cells that may be written. -/
structure Box (W : World) (g : Nat) (vs : List Value) : Prop where
 is : ∀ j (h : j < vs.length), W.cell? ⟨g, j, none⟩ = some vs[j] ∧ W.frozen? ⟨g, j, none⟩ = false
 lt : g < W.heap.size
theorem Box.next {W W' : World} {g : Nat} {vs : List Value} (h : Box W g vs) (hb : Below W.heap.size W W') : Box W' g vs := ⟨fun j hj => ⟨cell_next hb (h.is j hj).1 h.lt, frozen_next hb (h.is j hj).2 h.lt⟩, Nat.lt_of_lt_of_le h.lt hb.size⟩
theorem Box.gro {W W' : World} {g : Nat} {vs : List Value} {u u' : Value} (h : Box W g vs) (hg : Gro W W' u u') (hne : u.ownBlock ≠ some g) : Box W' g vs :=
 ⟨fun j hj => ⟨hg.cell (h.is j hj).1 hne, by rw [World.frozen?_of_block (w := W) (hg.grown.block g h.lt (fun e => hne e.symm))]; exact (h.is j hj).2⟩, Nat.lt_of_lt_of_le h.lt hg.size⟩
theorem Box.oth {W : World} {g q i : Nat} {u : Value} {vs : List Value} (h : Box W g vs) (hne : g ≠ q) : Box (W.setCell ⟨q, i, none⟩ u) g vs := ⟨fun j hj => ⟨cell_set (h.is j hj).1 hne, by simpa using (h.is j hj).2⟩, by simpa [World.setCell] using h.lt⟩
theorem Box.set {W : World} {g i : Nat} {u : Value} {vs : List Value} (h : Box W g vs) (hi : i < vs.length) : Box (W.setCell ⟨g, i, none⟩ u) g (vs.set i u) := by
 refine ⟨fun j hj => ⟨?_, ?_⟩, by simpa [World.setCell] using h.lt⟩
 ·by_cases e : i = j
  ·subst e
   rw [List.getElem_set_self]
   exact cell_here (by rw [(h.is i hi).1]; rfl)
  ·rw [List.getElem_set_ne e, cell_off e]
   exact (h.is j (by simpa using hj)).1
 ·have := (h.is j (by simpa using hj)).2
  simpa using this
theorem box_mk {W : World} {t : TypeId} {vs : List Value} : Box (W.alloc (.cells vs.toArray t)) W.heap.size vs := by
 refine ⟨fun j hj => ⟨?_, by go_simp⟩, by simp⟩
 rw [World.cell?_alloc_at _ _ _ _ rfl, List.getElem?_toArray, List.getElem?_eq_getElem hj]
theorem Box.alloc {W : World} {g : Nat} {vs : List Value} {ob : Obj} (h : Box W g vs) : Box (W.alloc ob) g vs := h.next (bel_alloc _ _)
theorem Box.ne {W W' : World} {g : Nat} {vs : List Value} {v v' : Value} (h : Box W g vs) (hg : Gro W W' v v') (hne : v.ownBlock ≠ some g) : v'.ownBlock ≠ some g := hg.ne h.lt hne


theorem Box.c2 {W : World} {g : Nat} {v0 v1 : Value} (h : Box W g [v0, v1]) : W.cell? ⟨g, 0, none⟩ = some v0 ∧ W.cell? ⟨g, 1, none⟩ = some v1 := ⟨(h.is 0 (by simp)).1, (h.is 1 (by simp)).1⟩
theorem Box.f2 {W : World} {g : Nat} {v0 v1 : Value} (h : Box W g [v0, v1]) : W.frozen? ⟨g, 0, none⟩ = false ∧ W.frozen? ⟨g, 1, none⟩ = false := ⟨(h.is 0 (by simp)).2, (h.is 1 (by simp)).2⟩
theorem Box.s2 {W : World} {g : Nat} {v0 v1 u0 u1 : Value} (h : Box W g [v0, v1]) : Box ((W.setCell ⟨g, 0, none⟩ u0).setCell ⟨g, 1, none⟩ u1) g [u0, u1] := by
  have := ((h.set (i := 0) (u := u0) (by simp)).set (i := 1) (u := u1) (by simp))
  simpa using this
theorem Box.o2 {W : World} {b g : Nat} {xs : List Value} {u0 u1 : Value} (h : Box W b xs) (hne : b ≠ g) : Box ((W.setCell ⟨g, 0, none⟩ u0).setCell ⟨g, 1, none⟩ u1) b xs := ((h.oth hne).oth hne)

theorem Box.c7 {W : World} {g : Nat} {v0 v1 v2 v3 v4 v5 v6 : Value} (h : Box W g [v0, v1, v2, v3, v4, v5, v6]) : W.cell? ⟨g, 0, none⟩ = some v0 ∧ W.cell? ⟨g, 1, none⟩ = some v1 ∧ W.cell? ⟨g, 2, none⟩ = some v2 ∧ W.cell? ⟨g, 3, none⟩ = some v3 ∧ W.cell? ⟨g, 4, none⟩ = some v4 ∧ W.cell? ⟨g, 5, none⟩ = some v5 ∧ W.cell? ⟨g, 6, none⟩ = some v6 := ⟨(h.is 0 (by simp)).1, (h.is 1 (by simp)).1, (h.is 2 (by simp)).1, (h.is 3 (by simp)).1, (h.is 4 (by simp)).1, (h.is 5 (by simp)).1, (h.is 6 (by simp)).1⟩
theorem Box.f7 {W : World} {g : Nat} {v0 v1 v2 v3 v4 v5 v6 : Value} (h : Box W g [v0, v1, v2, v3, v4, v5, v6]) : W.frozen? ⟨g, 0, none⟩ = false ∧ W.frozen? ⟨g, 1, none⟩ = false ∧ W.frozen? ⟨g, 2, none⟩ = false ∧ W.frozen? ⟨g, 3, none⟩ = false ∧ W.frozen? ⟨g, 4, none⟩ = false ∧ W.frozen? ⟨g, 5, none⟩ = false ∧ W.frozen? ⟨g, 6, none⟩ = false := ⟨(h.is 0 (by simp)).2, (h.is 1 (by simp)).2, (h.is 2 (by simp)).2, (h.is 3 (by simp)).2, (h.is 4 (by simp)).2, (h.is 5 (by simp)).2, (h.is 6 (by simp)).2⟩
theorem Box.s7 {W : World} {g : Nat} {v0 v1 v2 v3 v4 v5 v6 u0 u1 u2 u3 u4 u5 u6 : Value} (h : Box W g [v0, v1, v2, v3, v4, v5, v6]) : Box (((((((W.setCell ⟨g, 0, none⟩ u0).setCell ⟨g, 1, none⟩ u1).setCell ⟨g, 2, none⟩ u2).setCell ⟨g, 3, none⟩ u3).setCell ⟨g, 4, none⟩ u4).setCell ⟨g, 5, none⟩ u5).setCell ⟨g, 6, none⟩ u6) g [u0, u1, u2, u3, u4, u5, u6] := by
  have := (((((((h.set (i := 0) (u := u0) (by simp)).set (i := 1) (u := u1) (by simp)).set (i := 2) (u := u2) (by simp)).set (i := 3) (u := u3) (by simp)).set (i := 4) (u := u4) (by simp)).set (i := 5) (u := u5) (by simp)).set (i := 6) (u := u6) (by simp))
  simpa using this
theorem Box.o7 {W : World} {b g : Nat} {xs : List Value} {u0 u1 u2 u3 u4 u5 u6 : Value} (h : Box W b xs) (hne : b ≠ g) : Box (((((((W.setCell ⟨g, 0, none⟩ u0).setCell ⟨g, 1, none⟩ u1).setCell ⟨g, 2, none⟩ u2).setCell ⟨g, 3, none⟩ u3).setCell ⟨g, 4, none⟩ u4).setCell ⟨g, 5, none⟩ u5).setCell ⟨g, 6, none⟩ u6) b xs := (((((((h.oth hne).oth hne).oth hne).oth hne).oth hne).oth hne).oth hne)
/-- The world is forgotten but for what is said of it. -/
theorem wp_gen {P : Program} {c : Code} {Q : Exit → Act → World → Prop} {a : Act} {W : World} (I : World → Prop) (h : I W) (k : ∀ W', I W' → Code.wp P c Q a W') : Code.wp P c Q a W := k W h
theorem bel_in {w W : World} {g i : Nat} {u : Value} (h : Below w.heap.size w W) (hg : w.heap.size ≤ g) : Below w.heap.size w (W.setCell ⟨g, i, none⟩ u) := h.setCell (by simpa using hg) _
theorem nil_below {w w' : World} {v : Value} (h : Gro w w' (.slice none 0 0) v) : Below w.heap.size w w' := h.below (Nat.le_refl _) (fun k hk => by simp [Value.ownBlock] at hk)
theorem gb_refl (w : World) (r : Option Nat) : w.grownBy w r := ⟨rfl, rfl, rfl, Nat.le_refl _, fun _ _ _ => rfl⟩
theorem gb_trans {w w1 w2 : World} {r : Option Nat} (h : w.grownBy w1 r) (k : w1.grownBy w2 r) : w.grownBy w2 r :=
 ⟨k.os.trans h.os, k.tape.trans h.tape, k.output.trans h.output, Nat.le_trans h.size k.size, fun b hb hne => (k.block b (Nat.lt_of_lt_of_le hb h.size) hne).trans (h.block b hb hne)⟩
theorem gb_below {w w' : World} {r : Option Nat} (h : Below w.heap.size w w') : w.grownBy w' r := ⟨h.os, h.tape, h.output, h.size, fun b hb _ => h.block b hb⟩
theorem gb_set (w : World) (g o : Nat) (u : Value) : w.grownBy (w.setCell ⟨g, o, none⟩ u) (some g) :=
 ⟨by simp [World.setCell], by simp [World.setCell], by simp [World.setCell], by simp [World.setCell], fun b _ hne => Below.heap_setCell w ⟨g, o, none⟩ u b (fun e => hne (by rw [e]))⟩
theorem bel_mark {w W W' : World} {r : Option Nat} (h : Hid (Below w.heap.size w W)) (hg : W.grownBy W' r) (hr : ∀ k, r = some k → w.heap.size ≤ k) : Hid (Below w.heap.size w W') :=
 ⟨hg.os.trans h.out.os, hg.tape.trans h.out.tape, hg.output.trans h.out.output, Nat.le_trans h.out.size hg.size, fun b hb => (hg.block b (Nat.lt_of_lt_of_le hb h.out.size) (fun e => by have := hr b e.symm; omega)).trans (h.out.block b hb)⟩
theorem cell_oth {W : World} {g o o' : Nat} {u v : Value} (h : W.cell? ⟨g, o, none⟩ = some v) (hne : o ≠ o') : (W.setCell ⟨g, o', none⟩ u).cell? ⟨g, o, none⟩ = some v := by
 rw [World.cell?_setCell_other _ _ _ _ (fun e => by cases e; exact hne rfl)]
 exact h
theorem cell_same {W : World} {g o : Nat} {u v : Value} (h : W.cell? ⟨g, o, none⟩ = some v) : (W.setCell ⟨g, o, none⟩ u).cell? ⟨g, o, none⟩ = some u := World.cell?_setCell_same W _ u h

/-- What is kept but for some blocks. -/
structure Kp (E : Nat → Prop) (w w' : World) : Prop where
 os : w'.os = w.os
 tape : w'.tape = w.tape
 output : w'.output = w.output
 size : w.heap.size ≤ w'.heap.size
 block : ∀ b, b < w.heap.size → ¬ E b → w'.heap[b]? = w.heap[b]?
theorem Kp.of_below {E : Nat → Prop} {w w' : World} (h : Below w.heap.size w w') : Kp E w w' := ⟨h.os, h.tape, h.output, h.size, fun b hb _ => h.block b hb⟩
theorem Kp.of_grown {w w' : World} {mb : Nat} (h : w.grownBy w' (some mb)) : Kp (· = mb) w w' := ⟨h.os, h.tape, h.output, h.size, fun b hb hn => h.block b hb (fun e => hn (by cases e; rfl))⟩
theorem Kp.of_gro {w w' : World} {v v' : Value} (h : Gro w w' v v') : Kp (fun b => v.ownBlock = some b) w w' := ⟨h.grown.os, h.grown.tape, h.grown.output, h.grown.size, fun b hb hn => h.grown.block b hb (fun e => hn e.symm)⟩
theorem Kp.set {W : World} {g i : Nat} {u : Value} : Kp (· = g) W (W.setCell ⟨g, i, none⟩ u) := ⟨rfl, rfl, rfl, by simp [World.setCell], fun b _ hn => Below.heap_setCell W ⟨g, i, none⟩ u b hn⟩
theorem Kp.trans {E E' E2 : Nat → Prop} {a b c : World} (h : Kp E a b) (k : Kp E' b c) (h1 : ∀ x, x < a.heap.size → E x → E2 x) (h2 : ∀ x, x < a.heap.size → E' x → E2 x) : Kp E2 a c :=
 ⟨k.os.trans h.os, k.tape.trans h.tape, k.output.trans h.output, Nat.le_trans h.size k.size, fun x hx hn => (k.block x (Nat.lt_of_lt_of_le hx h.size) (fun e => hn (h2 x hx e))).trans (h.block x hx (fun e => hn (h1 x hx e)))⟩
theorem Kp.below {E : Nat → Prop} {w w' : World} {base : Nat} (h : Kp E w w') (hb : base ≤ w.heap.size) (he : ∀ b, b < base → ¬ E b) : Below base w w' := ⟨h.os, h.tape, h.output, h.size, fun b hb' => h.block b (by omega) (he b hb')⟩
theorem Box.kp {E : Nat → Prop} {W W' : World} {g : Nat} {vs : List Value} (h : Box W g vs) (k : Kp E W W') (hn : ¬ E g) : Box W' g vs :=
 ⟨fun j hj => ⟨by rw [World.cell?_of_block (w := W) (k.block g h.lt hn)]; exact (h.is j hj).1, by rw [World.frozen?_of_block (w := W) (k.block g h.lt hn)]; exact (h.is j hj).2⟩, Nat.lt_of_lt_of_le h.lt k.size⟩
theorem GRow.kp {E : Nat → Prop} {lo : Nat} {W W' : World} {p : Option Addr} {vs : List Value} (h : GRow lo W p vs) (k : Kp E W W') (hn : ∀ x, p = some x → vs ≠ [] → ¬ E x.block) : GRow lo W' p vs := by
 rcases h with h | ⟨b, off, h1, h2, h3⟩
 ·exact .inl h
 ·by_cases hv : vs = []
  ·exact .inl hv
  ·refine .inr ⟨b, off, h1, h2, fun j hj => ?_⟩
   rw [World.cell?_of_block (w := W) (k.block b (cell_lt (h3 j hj)) (hn _ h1 hv))]
   exact h3 j hj
theorem OwnG.kp {E : Nat → Prop} {W W' : World} {e size n lo : Nat} {v : Value} {xs : List Value} (h : OwnG W e size v n xs lo) (q : Kp E W W') (hn : ∀ k, v.ownBlock = some k → ¬ E k) : OwnG W' e size v n xs lo := by
 refine ⟨⟨h.own.1, ?_⟩, h.ge⟩
 rcases h.own.2 with h' | ⟨g, cap, cur, rfl, hb, hh, r⟩
 ·exact .inl h'
 ·exact .inr ⟨g, cap, cur, rfl, hb, (q.block g (h.own.lt g rfl).2 (hn g rfl)).trans hh, r⟩
end Go.Proofs.YtdepclilngaacaaDoor

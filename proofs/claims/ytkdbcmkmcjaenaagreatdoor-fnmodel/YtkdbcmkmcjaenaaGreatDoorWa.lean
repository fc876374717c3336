/- The program's objects: right ones, writes, sameness (texts of the seat of objects). -/
import Derived.WalkKit
import Derived.WalkSpells
import Derived.WalkLawsBesides
import Derived.Deep.QuietTactic
import Derived.BigQuiet
import Derived.Deep.RegionHeld3
import Derived.LoopN
import Derived.OwnWalk
import Derived.Laws.StructEq
import Derived.Laws.OwnMore
import Derived.RegionTactic
import Derived.BigRegion
import Derived.Deep.RegionWith
import Derived.WalkMore
import Derived.Deep.LoopGhost
import Derived.Deep.Upon
import Derived.Deep.Cut
import Derived.Shelf.RegionOpenPlain
import Derived.Shelf.Spec.SlicesInsertGrow
import Derived.Maps.AppendAt
import Derived.Deep.AppendLies
import Derived.OpenShut
import Derived.Test.YtkdbcmkmcjaenaaGreatDoorRows
namespace Go.Proofs.YtkdbcmkmcjaenaaGreatDoor
namespace W
open Go.RowKit
set_option linter.unusedSimpArgs false
set_option linter.unusedVariables false
set_option maxRecDepth 100000
theorem ret_bool {a b : Bool} (h : a = b) : Ending.returned (.bool a) = .returned (.bool b) := by rw [h]
theorem ret_int {k : IntKind} {a b : Int} (h : a = b) : Ending.returned (.int k a) = .returned (.int k b) := by rw [h]
theorem cell_next {W w1 : World} (hb : Below W.heap.size W w1) {b o : Nat} {v : Value} (h : W.cell? ⟨b, o, none⟩ = some v) (hs : b < W.heap.size) : w1.cell? ⟨b, o, none⟩ = some v := by
  rw [hb.cell (p := ⟨b, o, none⟩) hs]; exact h
theorem cell_set {W : World} {b o t j : Nat} {v u : Value} (h : W.cell? ⟨b, o, none⟩ = some v) (hne : b ≠ t) : (W.setCell ⟨t, j, none⟩ u).cell? ⟨b, o, none⟩ = some v := by
  rw [World.cell?_of_block (w := W) (Below.heap_setCell W ⟨t, j, none⟩ u b (by simpa using hne))]; exact h
structure Sib where
  p : Int
  n : Int
  v : Int
  d : Bool
/-- A sibling's four cells. -/
def SibAt (w : World) (b o : Nat) (x : Sib) : Prop := w.cell? ⟨b, o, none⟩ = some (.int .i64 x.p) ∧ w.cell? ⟨b, o + 1, none⟩ = some (.int .i64 x.n) ∧ w.cell? ⟨b, o + 2, none⟩ = some (.int .i64 x.v) ∧ w.cell? ⟨b, o + 3, none⟩ = some (.bool x.d)
/-- A list of siblings in memory: nothing is said of an empty one. -/
def SibRow (w : World) (ao : Option Addr) (l : List Sib) : Prop := l = [] ∨ ∃ b off, ao = some ⟨b, off, none⟩ ∧ ∀ i (h : i < l.length), SibAt w b (off + i * 4) l[i]
/-- Cells that are there and may be written. -/
def There (w : World) (g n : Nat) : Prop := ∀ j, j < n → (w.cell? ⟨g, j, none⟩).isSome = true ∧ w.frozen? ⟨g, j, none⟩ = false
theorem cell_off {W : World} {b i j : Nat} {u : Value} (h : i ≠ j) : (W.setCell ⟨b, i, none⟩ u).cell? ⟨b, j, none⟩ = W.cell? ⟨b, j, none⟩ :=
  World.cell?_setCell_other W _ _ u (fun e => h (by cases e; rfl))
theorem cell_here {W : World} {b i : Nat} {u : Value} (h : (W.cell? ⟨b, i, none⟩).isSome = true) : (W.setCell ⟨b, i, none⟩ u).cell? ⟨b, i, none⟩ = some u := by
  obtain ⟨v, hv⟩ := Option.isSome_iff_exists.1 h
  exact World.cell?_setCell_same W _ u hv
theorem There.set {W : World} {g n b i : Nat} {u : Value} (h : There W g n) : There (W.setCell ⟨b, i, none⟩ u) g n := fun j hj => by
  refine ⟨?_, by rw [World.frozen?_setCell]; exact (h j hj).2⟩
  obtain ⟨v, hv⟩ := Option.isSome_iff_exists.1 (h j hj).1
  obtain ⟨v', hv'⟩ := cell?_setCell_some (p := ⟨b, i, none⟩) (x := u) hv
  rw [hv']; rfl
theorem There.next {W w1 : World} {g n : Nat} (hb : Below W.heap.size W w1) (hg : g < W.heap.size) (h : There W g n) : There w1 g n := fun j hj => by
  obtain ⟨h1, h2⟩ := h j hj
  exact ⟨by rw [hb.cell (p := ⟨g, j, none⟩) hg]; exact h1, by rw [hb.frozen (p := ⟨g, j, none⟩) hg]; exact h2⟩
theorem SibAt.next {W w1 : World} {b o : Nat} {x : Sib} (hb : Below W.heap.size W w1) (hg : b < W.heap.size) (h : SibAt W b o x) : SibAt w1 b o x :=
  ⟨cell_next hb h.1 hg, cell_next hb h.2.1 hg, cell_next hb h.2.2.1 hg, cell_next hb h.2.2.2 hg⟩
theorem cell_lt {W : World} {x : Addr} {v : Value} (h : W.cell? x = some v) : x.block < W.heap.size := by
  rcases Nat.lt_or_ge x.block W.heap.size with h' | h'
  · exact h'
  · simp [World.cell?, Array.getElem?_eq_none h'] at h
theorem SibRow.next {W w1 : World} {ao : Option Addr} {l : List Sib} (hb : Below W.heap.size W w1) (h : SibRow W ao l) : SibRow w1 ao l := by
  rcases h with h | ⟨b, off, h1, h2⟩
  · exact Or.inl h
  · exact Or.inr ⟨b, off, h1, fun i hi => (h2 i hi).next hb (cell_lt (x := ⟨b, off + i * 4, none⟩) (h2 i hi).1)⟩
/-- Four stores lay a sibling; the others of the block stay. -/
theorem SibAt.put {W : World} {g n k : Nat} {x : Sib} (h : There W g n) (hk : k + 3 < n) : SibAt ((((W.setCell ⟨g, k, none⟩ (.int .i64 x.p)).setCell ⟨g, k + 1, none⟩ (.int .i64 x.n)).setCell ⟨g, k + 2, none⟩ (.int .i64 x.v)).setCell ⟨g, k + 3, none⟩ (.bool x.d)) g k x := by
  refine ⟨?_, ?_, ?_, ?_⟩
  · rw [cell_off (by omega), cell_off (by omega), cell_off (by omega)]; exact cell_here (h k (by omega)).1
  · rw [cell_off (by omega), cell_off (by omega)]; exact cell_here (h.set (k + 1) (by omega)).1
  · rw [cell_off (by omega)]; exact cell_here (h.set.set (k + 2) (by omega)).1
  · exact cell_here (h.set.set.set (k + 3) (by omega)).1
def flat : List Sib → List Value
  | [] => []
  | s :: l => .int .i64 s.p :: .int .i64 s.n :: .int .i64 s.v :: .bool s.d :: flat l
theorem flat_length (l : List Sib) : (flat l).length = l.length * 4 := by
  induction l with
  | nil => rfl
  | cons s l ih => simp [flat, ih]; omega
theorem flat_append (l m : List Sib) : flat (l ++ m) = flat l ++ flat m := by
  induction l with
  | nil => rfl
  | cons s l ih => simp [flat, ih]
theorem flat_one (l : List Sib) : ∀ u ∈ flat l, u.oneCell' = true := by
  induction l with
  | nil => intro u hu; simp [flat] at hu
  | cons s l ih =>
    intro u hu
    simp only [flat, List.mem_cons] at hu
    rcases hu with rfl | rfl | rfl | rfl | hu
    · rfl
    · rfl
    · rfl
    · rfl
    · exact ih u hu
theorem flat_at (l : List Sib) : ∀ i (h : i < l.length), (flat l)[i * 4]? = some (.int .i64 l[i].p) ∧ (flat l)[i * 4 + 1]? = some (.int .i64 l[i].n) ∧ (flat l)[i * 4 + 2]? = some (.int .i64 l[i].v) ∧ (flat l)[i * 4 + 3]? = some (.bool l[i].d) := by
  induction l with
  | nil => intro i h; simp at h
  | cons s l ih =>
    intro i h
    cases i with
    | zero => simp [flat]
    | succ i =>
      have := ih i (by simpa using h)
      have e : (i + 1) * 4 = i * 4 + 4 := by omega
      rw [e]
      simpa [flat] using this
theorem flat_cells {w : World} {b off : Nat} : ∀ {l : List Sib} {o : Nat}, o = off → (∀ i (h : i < l.length), SibAt w b (o + i * 4) l[i]) → ∀ j u, (flat l)[j]? = some u → w.cell? ⟨b, o + j, none⟩ = some u := by
  intro l o ho h j u hu
  have hj : j < (flat l).length := by
    rcases Nat.lt_or_ge j (flat l).length with q | q
    · exact q
    · rw [List.getElem?_eq_none q] at hu; cases hu
  rw [flat_length] at hj
  have hi : j / 4 < l.length := by omega
  obtain ⟨a0, a1, a2, a3⟩ := h (j / 4) hi
  obtain ⟨f0, f1, f2, f3⟩ := flat_at l (j / 4) hi
  have cs : j = j / 4 * 4 ∨ j = j / 4 * 4 + 1 ∨ j = j / 4 * 4 + 2 ∨ j = j / 4 * 4 + 3 := by omega
  generalize j / 4 = i at *
  rcases cs with rfl | rfl | rfl | rfl
  · rw [f0] at hu; cases hu; exact a0
  · rw [f1] at hu; cases hu; exact a1
  · rw [f2] at hu; cases hu; exact a2
  · rw [f3] at hu; cases hu; exact a3
/-- What is owned is a row of siblings. -/
theorem owned_row {w : World} {base e : Nat} {v : Value} {l : List Sib} (h : w.ownsRow base e 4 v l.length (flat l)) : ∃ ao cap, v = .slice ao l.length cap ∧ SibRow w ao l ∧ ∀ x, ao = some x → base ≤ x.block ∧ x.block < w.heap.size := by
  have hq := h.2
  rcases hq with ⟨rfl, hn⟩ | ⟨g, cap, cur, rfl, hb, hh, hnc, hm, hs, ht⟩
  · exact ⟨none, 0, by rw [hn], Or.inl (List.length_eq_zero_iff.1 hn), fun x hx => by cases hx⟩
  · refine ⟨some ⟨g, 0, none⟩, cap, rfl, Or.inr ⟨g, 0, rfl, fun i hi => ?_⟩, fun x hx => ?_⟩
    · obtain ⟨f0, f1, f2, f3⟩ := flat_at l i hi
      refine ⟨?_, ?_, ?_, ?_⟩
      · rw [h.cellAt _ (by omega)]; simpa using f0
      · rw [h.cellAt _ (by omega)]; simpa using f1
      · rw [h.cellAt _ (by omega)]; simpa using f2
      · rw [h.cellAt _ (by omega)]; simpa using f3
    · cases hx
      exact ⟨hb, by
        rcases Nat.lt_or_ge g w.heap.size with h' | h'
        · exact h'
        · rw [Array.getElem?_eq_none h'] at hh; cases hh⟩
theorem own_base {w : World} {base base' e size n : Nat} {v : Value} {xs : List Value} (h : w.ownsRow base e size v n xs) (hk : ∀ k, v.ownBlock = some k → base' ≤ k) : w.ownsRow base' e size v n xs := by
  refine ⟨h.1, ?_⟩
  rcases h.2 with h' | ⟨g, cap, cur, rfl, hb, r⟩
  · exact .inl h'
  · exact .inr ⟨g, cap, cur, rfl, hk g rfl, r⟩
/-- The world grows; of old blocks only the row's may be written; the row's block then is the old one or a new one. -/
structure Gro (w w' : World) (v v' : Value) : Prop where
  grown : w.grownBy w' v.ownBlock
  fresh : ∀ k, v'.ownBlock = some k → v.ownBlock = some k ∨ w.heap.size ≤ k
theorem Gro.refl (w : World) (v : Value) : Gro w w v v := ⟨⟨rfl, rfl, rfl, Nat.le_refl _, fun _ _ _ => rfl⟩, fun _ h => .inl h⟩
theorem Gro.trans {w w1 w2 : World} {v v1 v2 : Value} (h : Gro w w1 v v1) (k : Gro w1 w2 v1 v2) : Gro w w2 v v2 := by
  refine ⟨⟨k.grown.os.trans h.grown.os, k.grown.tape.trans h.grown.tape, k.grown.output.trans h.grown.output, Nat.le_trans h.grown.size k.grown.size, fun b hb hne => ?_⟩, fun b hb => ?_⟩
  · refine (k.grown.block b (Nat.lt_of_lt_of_le hb h.grown.size) (fun e => ?_)).trans (h.grown.block b hb hne)
    rcases h.fresh b e.symm with q | q
    · exact hne q.symm
    · omega
  · rcases k.fresh b hb with q | q
    · exact h.fresh b q
    · exact .inr (Nat.le_trans h.grown.size q)
theorem Gro.of_below {w w' : World} {v : Value} (hb : Below w.heap.size w w') : Gro w w' v v := ⟨⟨hb.os, hb.tape, hb.output, hb.size, fun b h _ => hb.block b h⟩, fun _ h => .inl h⟩
theorem Gro.size {w w' : World} {v v' : Value} (h : Gro w w' v v') : w.heap.size ≤ w'.heap.size := h.grown.size
theorem Gro.below {w w' : World} {v v' : Value} {base : Nat} (h : Gro w w' v v') (hb : base ≤ w.heap.size) (hv : ∀ k, v.ownBlock = some k → base ≤ k) : Below base w w' :=
  ⟨h.grown.os, h.grown.tape, h.grown.output, h.grown.size, fun b hk => h.grown.block b (by omega) (fun e => by have := hv b e.symm; omega)⟩
theorem Gro.cell {w w' : World} {v v' : Value} (h : Gro w w' v v') {b o : Nat} {u : Value} (hc : w.cell? ⟨b, o, none⟩ = some u) (hne : v.ownBlock ≠ some b) : w'.cell? ⟨b, o, none⟩ = some u :=
  h.grown.cell hc (fun e => hne e.symm)
theorem Gro.at {w w' : World} {v v' : Value} (h : Gro w w' v v') {b o : Nat} {x : Sib} (hc : SibAt w b o x) (hne : v.ownBlock ≠ some b) : SibAt w' b o x :=
  ⟨h.cell hc.1 hne, h.cell hc.2.1 hne, h.cell hc.2.2.1 hne, h.cell hc.2.2.2 hne⟩
theorem Gro.row {w w' : World} {v v' : Value} (h : Gro w w' v v') {ao : Option Addr} {l : List Sib} (hc : SibRow w ao l) (hne : ∀ x, ao = some x → v.ownBlock ≠ some x.block) : SibRow w' ao l := by
  rcases hc with h' | ⟨b, off, rfl, h2⟩
  · exact .inl h'
  · exact .inr ⟨b, off, rfl, fun i hi => h.at (h2 i hi) (hne ⟨b, off, none⟩ rfl)⟩
theorem Gro.ne {w w' : World} {v v' : Value} (h : Gro w w' v v') {b : Nat} (hb : b < w.heap.size) (hne : v.ownBlock ≠ some b) : v'.ownBlock ≠ some b := fun e => by
  rcases h.fresh b e with q | q
  · exact hne q
  · omega
theorem own_next {w w' : World} {base e size n : Nat} {v : Value} {xs : List Value} (h : w.ownsRow base e size v n xs) (hb : Below w.heap.size w w') : w'.ownsRow base e size v n xs := by
  refine ⟨h.1, ?_⟩
  rcases h.2 with h' | ⟨g, cap, cur, rfl, hg, hh, r⟩
  · exact .inl h'
  · refine .inr ⟨g, cap, cur, rfl, hg, ?_, r⟩
    rw [hb.block g (by
      rcases Nat.lt_or_ge g w.heap.size with h' | h'
      · exact h'
      · rw [Array.getElem?_eq_none h'] at hh; cases hh)]
    exact hh
variable {P : Program}
theorem run_append2 (w : World) (t ty e : TypeId) (i : TypeInfo) (z : Value) (size bytes : Nat) (ht : P.underlying t = some (.slice e)) (hi : P.info? e = some i) (hz : i.zero = some z)
    (hsize : i.size = size) (hby : i.bytes = bytes) (hzs : z.cells.size = size) (hsz : 0 < size)
    (v : Value) (n : Nat) (xs : List Value) (hown : w.ownsRow 0 e size v n xs)
    (a : Addr) (m c : Nat) (news : List Value) (hl : news.length = m * size) (hnews : ∀ j u, news[j]? = some u → w.cell? (a.add j) = some u) (h1 : ∀ u ∈ news, u.oneCell' = true)
    (h63 : n + m ≤ maxLen) (hbytes : (n + m) * bytes ≤ 140737488355328) :
    ∃ v' w', (Builtin.append_ #[t, t] ty #[v, .slice (some a) m c]).run P w = .ok v' w' ∧ w'.ownsRow 0 e size v' (n + m) (xs ++ news) ∧ Gro w w' v v' := by
  rcases hown.2 with ⟨rfl, rfl⟩ | ⟨g, cap, cur, rfl, hbg, hg, hnc, hcm, hcs, htake⟩
  · have hx : xs = [] := List.eq_nil_of_length_eq_zero (by simpa using hown.1)
    subst hx
    obtain ⟨v', w', r1, r2, r3, _⟩ := run_append_own (P := P) w w.heap.size t ty e i z size bytes ht hi hz hsize hby hzs hsz _ 0 [] (World.ownsRow_nil w w.heap.size e size) a m c news hl hnews h1 h63 hbytes (Nat.le_refl _)
    exact ⟨v', w', r1, own_base r2 (fun _ _ => Nat.zero_le _), r3, fun k hk => .inr (r2.lt k hk).1⟩
  · by_cases hroom : n + m ≤ cap
    · obtain ⟨w', r1, r2, r3⟩ := run_append_fits (P := P) w 0 t ty e i size ht hi hsize g n cap xs hown a m c news hl hnews h1 hroom
      exact ⟨_, w', r1, r2, r3, fun k hk => .inl hk⟩
    · obtain ⟨v', w', r1, r2, r3, _⟩ := run_append_own (P := P) w 0 t ty e i z size bytes ht hi hz hsize hby hzs hsz _ n xs hown a m c news hl hnews h1 h63 hbytes (Nat.zero_le _)
      subst hsize
      subst hby
      have hsmall : n + m ≤ 9223372036854775807 := by simp only [maxLen] at h63; omega
      have holds : ∀ j u, xs[j]? = some u → w.cell? ((⟨g, 0, none⟩ : Addr).add j) = some u := hown.cells (g := g) rfl
      have hr := run_append_grow (P := P) w t ty e i z ht hi hz ⟨g, 0, none⟩ n cap xs hown.1 holds a m c news hl hnews (by omega) (by omega) (growslice_fits (by omega) hbytes)
      rw [hr] at r1
      cases r1
      exact ⟨_, _, hr, r2, r3, fun k hk => .inr (by simp [Value.ownBlock] at hk; omega)⟩
theorem wpList_append2 {w : World} {ops : Array Oper} {rest : List Oper} {o : Oper} {a : Act} {Q : Exit → Act → World → Prop} (hgd : o.guard = none) (s x : Operand) (t : TypeId)
    (ho : o.op = .call { callee := .builtin .append, args := #[s, x], argTypes := #[t, t] })
    (e : TypeId) (i : TypeInfo) (z : Value) (size bytes : Nat) (ht : P.underlying t = some (.slice e)) (hi : P.info? e = some i) (hz : i.zero = some z)
    (hsize : i.size = size) (hby : i.bytes = bytes) (hzs : z.cells.size = size) (hsz : 0 < size)
    (v : Value) (n : Nat) (xs : List Value) (hs : a.eval s = v) (hown : w.ownsRow 0 e size v n xs)
    (ad : Addr) (m c : Nat) (news : List Value) (hx : a.eval x = .slice (some ad) m c) (hl : news.length = m * size) (hnews : ∀ j u, news[j]? = some u → w.cell? (ad.add j) = some u) (h1 : ∀ u ∈ news, u.oneCell' = true)
    (h63 : n + m ≤ maxLen) (hbytes : (n + m) * bytes ≤ 140737488355328)
    (h : ∀ v' w', w'.ownsRow 0 e size v' (n + m) (xs ++ news) → Gro w w' v v' → wpList P ops Q rest (a.put o.dst v') w') : wpList P ops Q (o :: rest) a w :=
  wpList_plain hgd fun _ hK => by
    obtain ⟨v', w', hr, h2, h3⟩ := run_append2 (P := P) w t o.type e i z size bytes ht hi hz hsize hby hzs hsz v n xs hown ad m c news hl hnews h1 h63 hbytes
    unfold Oper.wp execOp
    simp only [ho, resolve, invoke, builtin, Sem.run_bind, Sem.run_pure, Result.andThen_ok, List.map_toArray, List.map_cons, List.map_nil, hs, hx, hr]
    exact hK _ _ (h v' w' h2 h3)
def dotB (x y : Int) : Bool := decide (0 ≤ x ∧ x < 3 ∧ 1 ≤ y ∧ y ≤ 9999)
def vvB (a b c : Int) : Bool := decide ((0 ≤ a ∧ a ≤ 9999) ∧ (0 ≤ b ∧ b ≤ 9999) ∧ (0 ≤ c ∧ c ≤ 9999))
theorem idx0 (a b c : Int) (w : World) : (Instr.index 32 (.agg #[.int .i64 a, .int .i64 b, .int .i64 c]) (.int .i64 0)).run Tryz.prog w = .ok (.int .i64 a) w := by kernel_rfl
theorem idx1 (a b c : Int) (w : World) : (Instr.index 32 (.agg #[.int .i64 a, .int .i64 b, .int .i64 c]) (.int .i64 1)).run Tryz.prog w = .ok (.int .i64 b) w := by kernel_rfl
theorem idx2 (a b c : Int) (w : World) : (Instr.index 32 (.agg #[.int .i64 a, .int .i64 b, .int .i64 c]) (.int .i64 2)).run Tryz.prog w = .ok (.int .i64 c) w := by kernel_rfl
def comp (a b c p : Int) : Int := if p = 0 then a else if p = 1 then b else c
def dotsI (x y u v : Int) : Int := if x < u then -1 else if u < x then 1 else if y < v then -1 else if v < y then 1 else 0
def sibOK (p n v : Int) (d : Bool) : Bool := dotB p n && (decide (0 ≤ v) && decide (v ≤ 999)) && (!d || v == 0)
set_option maxHeartbeats 1000000 in
theorem impl_vv (a b c : Int) (w : World) :
    Calls Tryz.prog 31 #[.agg #[.int .i64 a, .int .i64 b, .int .i64 c]] w fun e w' => e = .returned (.bool (vvB a b c)) ∧ Below w.heap.size w w' := by
  have cs : a < 0 ∨ (0 ≤ a ∧ 9999 < a) ∨ (0 ≤ a ∧ a ≤ 9999 ∧ b < 0) ∨ (0 ≤ a ∧ a ≤ 9999 ∧ 0 ≤ b ∧ 9999 < b) ∨ (0 ≤ a ∧ a ≤ 9999 ∧ 0 ≤ b ∧ b ≤ 9999 ∧ c < 0) ∨ (0 ≤ a ∧ a ≤ 9999 ∧ 0 ≤ b ∧ b ≤ 9999 ∧ 0 ≤ c ∧ 9999 < c) ∨ (0 ≤ a ∧ a ≤ 9999 ∧ 0 ≤ b ∧ b ≤ 9999 ∧ 0 ≤ c ∧ c ≤ 9999) := by omega
  have i0 := idx0 a b c
  have i1 := idx1 a b c
  have i2 := idx2 a b c
  rcases cs with h1 | ⟨h1, h2⟩ | ⟨h1, h2, h3⟩ | ⟨h1, h2, h3, h4⟩ | ⟨h1, h2, h3, h4, h5⟩ | ⟨h1, h2, h3, h4, h5, h6⟩ | ⟨h1, h2, h3, h4, h5, h6⟩
  case inr.inr.inr.inr.inr.inr =>
    have HB : Hid (vvB a b c = true) := decide_eq_true (by omega)
    go_enter Tryz.func31, Tryz.ntmps31
    go_wp2
    refine wp_loop_rounds 4 ?_
    repeat (rw [rounds_succ]; go_wp2)
    go_ret
    exact ⟨ret_bool HB.out.symm, (Below.refl _ _).alloc (Nat.le_refl _) _⟩
  all_goals
    have HB : Hid (vvB a b c = false) := decide_eq_false (by omega)
    try (have da : decide (a ≤ 9999) = false := decide_eq_false (by omega))
    try (have db : decide (b ≤ 9999) = false := decide_eq_false (by omega))
    try (have dc : decide (c ≤ 9999) = false := decide_eq_false (by omega))
    go_enter Tryz.func31, Tryz.ntmps31
    go_wp2
    refine wp_loop_rounds 4 ?_
    repeat (rw [rounds_succ]; go_wp2)
    go_ret
    exact ⟨ret_bool HB.out.symm, (Below.refl _ _).alloc (Nat.le_refl _) _⟩
set_option maxHeartbeats 1000000 in
theorem greater_any (a b c x y z m n o : Int) (w : World) (h1 : (a < x ∧ m = x) ∨ (x ≤ a ∧ m = a)) (h2 : (b < y ∧ n = y) ∨ (y ≤ b ∧ n = b)) (h3 : (c < z ∧ o = z) ∨ (z ≤ c ∧ o = c)) :
    Calls Tryz.prog 24 #[.agg #[.int .i64 a, .int .i64 b, .int .i64 c], .agg #[.int .i64 x, .int .i64 y, .int .i64 z]] w fun e w' => e = .returned (.agg #[.int .i64 m, .int .i64 n, .int .i64 o]) ∧ Below w.heap.size w w' := by
  have i0 := idx0 x y z
  have i1 := idx1 x y z
  have i2 := idx2 x y z
  rcases h1 with ⟨h1, k1⟩ | ⟨h1, k1⟩ <;> rcases h2 with ⟨h2, k2⟩ | ⟨h2, k2⟩ <;> rcases h3 with ⟨h3, k3⟩ | ⟨h3, k3⟩ <;> subst k1 k2 k3
  all_goals
    go_enter Tryz.func24, Tryz.ntmps24
    go_wp2
    refine wp_loop_rounds 4 ?_
    repeat (rw [rounds_succ]; go_wp2)
    refine bodyPost_ret (v := .agg #[.int .i64 m, .int .i64 n, .int .i64 o]) (by simp [results, Tryz.results24, go_sem] <;> (try refine ⟨?_, ?_, ?_⟩) <;> omega) rfl ⟨rfl, ?_⟩
    repeat (first | exact Below.refl _ _ | refine Below.drew ?_ | refine below_drewN ?_ _ | refine Below.alloc ?_ (by first | (simp; done) | (simp; omega)) _ | refine Below.setCell ?_ (by first | (simp; done) | (simp; omega)) _)
set_option maxHeartbeats 400000 in
theorem isNode_any (a : Int) (w : World) : Calls Tryz.prog 65 #[.int .i64 a] w fun e w' => e = .returned (.bool (decide (0 ≤ a ∧ a < 3))) ∧ Below w.heap.size w w' := by
  by_cases h0 : 0 ≤ a
  · by_cases h1 : a < 3
    · have HD : Hid (decide (0 ≤ a ∧ a < 3) = true) := decide_eq_true ⟨h0, by omega⟩
      go_enter Tryz.func65, Tryz.ntmps65
      go_wp2
      go_ret
      exact ⟨ret_bool HD.out.symm, Below.refl _ _⟩
    · have HD : Hid (decide (0 ≤ a ∧ a < 3) = false) := decide_eq_false (by omega)
      go_enter Tryz.func65, Tryz.ntmps65
      go_wp2
      go_ret
      exact ⟨ret_bool (by first | exact HD.out.symm | (simp; done) | (simp; omega)), Below.refl _ _⟩
  · have HD : Hid (decide (0 ≤ a ∧ a < 3) = false) := decide_eq_false (by omega)
    go_enter Tryz.func65, Tryz.ntmps65
    go_wp2
    go_ret
    exact ⟨ret_bool (by first | exact HD.out.symm | (simp; done) | (simp; omega)), Below.refl _ _⟩
theorem impl_dot (p q : Int) (w : World) :
    Calls Tryz.prog 35 #[.agg #[.int .i64 p, .int .i64 q]] w fun e w' => e = .returned (.bool (dotB p q)) ∧ Below w.heap.size w w' := by
  by_cases hp : 0 ≤ p ∧ p < 3
  · have C : Hid (∀ W, Calls Tryz.prog 65 #[.int .i64 p] W fun e w' => e = .returned (.bool true) ∧ Below W.heap.size W w') := fun W => by
      have h := isNode_any p W
      rw [decide_eq_true hp] at h
      exact h
    by_cases h3 : 1 ≤ q <;> by_cases h4 : q ≤ 9999
    all_goals first
      | (exfalso; omega)
      | skip
    all_goals
      have HB : Hid (dotB p q = (decide (0 ≤ p ∧ p < 3 ∧ 1 ≤ q ∧ q ≤ 9999))) := rfl
      go_enter Tryz.func35, Tryz.ntmps35
      go_wp2_with fail
      refine Calls.mono (C.out _) ?_
      rintro e w1 ⟨rfl, hb⟩
      have hB1 : Hid (Below w.heap.size w w1) := (Below.alloc (Below.refl _ _) (Nat.le_refl _) _).trans (hb.mono (by simp))
      have x1 : w1.cell? ⟨w.heap.size, 1, none⟩ = some (.int .i64 q) := by rw [hb.cell (p := ⟨w.heap.size, 1, none⟩) (by simp)]; go_simp
      clear hb
      go_wp2
      go_ret
      exact ⟨ret_bool (by rw [HB.out]; simp [hp, h3, h4]), hB1.out⟩
  · have C : Hid (∀ W, Calls Tryz.prog 65 #[.int .i64 p] W fun e w' => e = .returned (.bool false) ∧ Below W.heap.size W w') := fun W => by
      have h := isNode_any p W
      rw [decide_eq_false hp] at h
      exact h
    have HB : Hid (dotB p q = false) := decide_eq_false (by omega)
    clear hp
    go_enter Tryz.func35, Tryz.ntmps35
    go_wp2_with fail
    refine Calls.mono (C.out _) ?_
    rintro e w1 ⟨rfl, hb⟩
    have hB1 : Hid (Below w.heap.size w w1) := (Below.alloc (Below.refl _ _) (Nat.le_refl _) _).trans (hb.mono (by simp))
    clear hb
    go_wp2
    go_ret
    exact ⟨ret_bool HB.out.symm, hB1.out⟩
set_option maxHeartbeats 1000000 in
theorem knows_0true (a b c q : Int) (w : World) (hq : q ≤ a) :
    Calls Tryz.prog 33 #[.agg #[.int .i64 a, .int .i64 b, .int .i64 c], .agg #[.int .i64 0, .int .i64 q]] w fun e w' => e = .returned (.bool true) ∧ Below w.heap.size w w' := by
  have dq : decide (q ≤ a) = true := by simp; omega
  go_enter Tryz.func33, Tryz.ntmps33
  go_wp2
  go_quiet (fail)
  go_wp2
  go_ret
  refine ⟨ret_bool (by simp [dq]), ?_⟩
  repeat (first | exact Below.refl _ _ | refine Below.drew ?_ | refine below_drewN ?_ _ | refine Below.alloc ?_ (by first | (simp; done) | (simp; omega)) _ | refine Below.setCell ?_ (by first | (simp; done) | (simp; omega)) _)
set_option maxHeartbeats 1000000 in
theorem knows_0false (a b c q : Int) (w : World) (hq : a < q) :
    Calls Tryz.prog 33 #[.agg #[.int .i64 a, .int .i64 b, .int .i64 c], .agg #[.int .i64 0, .int .i64 q]] w fun e w' => e = .returned (.bool false) ∧ Below w.heap.size w w' := by
  have dq : decide (q ≤ a) = false := by simp; omega
  go_enter Tryz.func33, Tryz.ntmps33
  go_wp2
  go_quiet (fail)
  go_wp2
  go_ret
  refine ⟨ret_bool (by simp [dq]), ?_⟩
  repeat (first | exact Below.refl _ _ | refine Below.drew ?_ | refine below_drewN ?_ _ | refine Below.alloc ?_ (by first | (simp; done) | (simp; omega)) _ | refine Below.setCell ?_ (by first | (simp; done) | (simp; omega)) _)
set_option maxHeartbeats 1000000 in
theorem knows_1true (a b c q : Int) (w : World) (hq : q ≤ b) :
    Calls Tryz.prog 33 #[.agg #[.int .i64 a, .int .i64 b, .int .i64 c], .agg #[.int .i64 1, .int .i64 q]] w fun e w' => e = .returned (.bool true) ∧ Below w.heap.size w w' := by
  have dq : decide (q ≤ b) = true := by simp; omega
  go_enter Tryz.func33, Tryz.ntmps33
  go_wp2
  go_quiet (fail)
  go_wp2
  go_ret
  refine ⟨ret_bool (by simp [dq]), ?_⟩
  repeat (first | exact Below.refl _ _ | refine Below.drew ?_ | refine below_drewN ?_ _ | refine Below.alloc ?_ (by first | (simp; done) | (simp; omega)) _ | refine Below.setCell ?_ (by first | (simp; done) | (simp; omega)) _)
set_option maxHeartbeats 1000000 in
theorem knows_1false (a b c q : Int) (w : World) (hq : b < q) :
    Calls Tryz.prog 33 #[.agg #[.int .i64 a, .int .i64 b, .int .i64 c], .agg #[.int .i64 1, .int .i64 q]] w fun e w' => e = .returned (.bool false) ∧ Below w.heap.size w w' := by
  have dq : decide (q ≤ b) = false := by simp; omega
  go_enter Tryz.func33, Tryz.ntmps33
  go_wp2
  go_quiet (fail)
  go_wp2
  go_ret
  refine ⟨ret_bool (by simp [dq]), ?_⟩
  repeat (first | exact Below.refl _ _ | refine Below.drew ?_ | refine below_drewN ?_ _ | refine Below.alloc ?_ (by first | (simp; done) | (simp; omega)) _ | refine Below.setCell ?_ (by first | (simp; done) | (simp; omega)) _)
set_option maxHeartbeats 1000000 in
theorem knows_2true (a b c q : Int) (w : World) (hq : q ≤ c) :
    Calls Tryz.prog 33 #[.agg #[.int .i64 a, .int .i64 b, .int .i64 c], .agg #[.int .i64 2, .int .i64 q]] w fun e w' => e = .returned (.bool true) ∧ Below w.heap.size w w' := by
  have dq : decide (q ≤ c) = true := by simp; omega
  go_enter Tryz.func33, Tryz.ntmps33
  go_wp2
  go_quiet (fail)
  go_wp2
  go_ret
  refine ⟨ret_bool (by simp [dq]), ?_⟩
  repeat (first | exact Below.refl _ _ | refine Below.drew ?_ | refine below_drewN ?_ _ | refine Below.alloc ?_ (by first | (simp; done) | (simp; omega)) _ | refine Below.setCell ?_ (by first | (simp; done) | (simp; omega)) _)
set_option maxHeartbeats 1000000 in
theorem knows_2false (a b c q : Int) (w : World) (hq : c < q) :
    Calls Tryz.prog 33 #[.agg #[.int .i64 a, .int .i64 b, .int .i64 c], .agg #[.int .i64 2, .int .i64 q]] w fun e w' => e = .returned (.bool false) ∧ Below w.heap.size w w' := by
  have dq : decide (q ≤ c) = false := by simp; omega
  go_enter Tryz.func33, Tryz.ntmps33
  go_wp2
  go_quiet (fail)
  go_wp2
  go_ret
  refine ⟨ret_bool (by simp [dq]), ?_⟩
  repeat (first | exact Below.refl _ _ | refine Below.drew ?_ | refine below_drewN ?_ _ | refine Below.alloc ?_ (by first | (simp; done) | (simp; omega)) _ | refine Below.setCell ?_ (by first | (simp; done) | (simp; omega)) _)
theorem knows_any (a b c p q : Int) (w : World) (h0 : 0 ≤ p) (h3 : p < 3) :
    Calls Tryz.prog 33 #[.agg #[.int .i64 a, .int .i64 b, .int .i64 c], .agg #[.int .i64 p, .int .i64 q]] w fun e w' => e = .returned (.bool (decide (q ≤ comp a b c p))) ∧ Below w.heap.size w w' := by
  have hp : p = 0 ∨ p = 1 ∨ p = 2 := by omega
  rcases hp with rfl | rfl | rfl
  · by_cases h : q ≤ a
    · exact (knows_0true a b c q w h).mono fun e w' ⟨he, hb⟩ => ⟨he.trans (ret_bool (by simp [comp, h])), hb⟩
    · exact (knows_0false a b c q w (by omega)).mono fun e w' ⟨he, hb⟩ => ⟨he.trans (ret_bool (by simp [comp, h])), hb⟩
  · by_cases h : q ≤ b
    · exact (knows_1true a b c q w h).mono fun e w' ⟨he, hb⟩ => ⟨he.trans (ret_bool (by simp [comp, h])), hb⟩
    · exact (knows_1false a b c q w (by omega)).mono fun e w' ⟨he, hb⟩ => ⟨he.trans (ret_bool (by simp [comp, h])), hb⟩
  · by_cases h : q ≤ c
    · exact (knows_2true a b c q w h).mono fun e w' ⟨he, hb⟩ => ⟨he.trans (ret_bool (by simp [comp, h])), hb⟩
    · exact (knows_2false a b c q w (by omega)).mono fun e w' ⟨he, hb⟩ => ⟨he.trans (ret_bool (by simp [comp, h])), hb⟩
def valB (v : Int) (d : Bool) : Bool := (decide (0 ≤ v) && decide (v ≤ 999)) && (!d || v == 0)
set_option maxHeartbeats 1000000 in
theorem valueOK_any (v : Int) (d : Bool) (w : World) :
    Calls Tryz.prog 56 #[.int .i64 v, .bool d] w fun e w' => e = .returned (.bool (valB v d)) ∧ w' = w := by
  have cs : (d = true ∧ v = 0) ∨ (d = true ∧ v ≠ 0) ∨ (d = false ∧ v < 0) ∨ (d = false ∧ 999 < v) ∨ (d = false ∧ 0 ≤ v ∧ v ≤ 999) := by
    cases d <;> simp <;> omega
  rcases cs with ⟨rfl, rfl⟩ | ⟨rfl, h⟩ | ⟨rfl, h⟩ | ⟨rfl, h⟩ | ⟨rfl, h, h2⟩
  · go_enter Tryz.func56, Tryz.ntmps56
    go_wp2
    go_ret
    exact ⟨rfl, rfl⟩
  · have HR : Hid (valB v true = false) := by unfold Hid valB; simp [h]
    have d0 : (v == 0) = false := beq_eq_false_iff_ne.2 h
    go_enter Tryz.func56, Tryz.ntmps56
    go_wp2
    go_ret
    exact ⟨ret_bool HR.out.symm, rfl⟩
  · have HR : Hid (valB v false = false) := by
      have q : ¬ 0 ≤ v := by omega
      unfold Hid valB; simp [q]
    have d0 : decide (0 ≤ v) = false := decide_eq_false (by omega)
    go_enter Tryz.func56, Tryz.ntmps56
    go_wp2
    go_ret
    exact ⟨ret_bool HR.out.symm, rfl⟩
  · have HR : Hid (valB v false = false) := by
      have q : ¬ v ≤ 999 := by omega
      unfold Hid valB; simp [q]
    have d0 : 0 ≤ v := by omega
    have d1 : decide (v ≤ 999) = false := decide_eq_false (by omega)
    go_enter Tryz.func56, Tryz.ntmps56
    go_wp2
    go_ret
    exact ⟨ret_bool HR.out.symm, rfl⟩
  · have HR : Hid (valB v false = true) := by unfold Hid valB; simp [h, h2]
    go_enter Tryz.func56, Tryz.ntmps56
    go_wp2
    go_ret
    exact ⟨ret_bool HR.out.symm, rfl⟩
theorem sib_val (p n v : Int) (d : Bool) : sibOK p n v d = (dotB p n && valB v d) := by
  unfold sibOK valB
  rw [Bool.and_assoc]
set_option maxHeartbeats 1000000 in
theorem implSib_any (p n v : Int) (d : Bool) (w : World) :
    Calls Tryz.prog 32 #[.agg #[.int .i64 p, .int .i64 n, .int .i64 v, .bool d]] w fun e w' => e = .returned (.bool (sibOK p n v d)) ∧ Below w.heap.size w w' := by
  have HS : Hid (sibOK p n v d = (dotB p n && valB v d)) := sib_val p n v d
  cases h : dotB p n
  · go_enter Tryz.func32, Tryz.ntmps32
    go_wp2_with fail
    refine (impl_dot p n _).mono ?_
    rintro e w1 ⟨rfl, hb⟩
    have hz := hb.size
    simp at hz
    have C2 := cell_next hb (b := w.heap.size) (o := 2) (v := .int .i64 v) (by go_simp) (by simp)
    have C3 := cell_next hb (b := w.heap.size) (o := 3) (v := .bool d) (by go_simp) (by simp)
    have hB : Hid (Below w.heap.size w w1) := ((Below.refl _ _).alloc (Nat.le_refl _) _).trans (hb.mono (by simp))
    clear hb
    go_wp2
    go_ret
    exact ⟨ret_bool (by rw [HS.out, h]; rfl), hB.out⟩
  · go_enter Tryz.func32, Tryz.ntmps32
    go_wp2_with fail
    refine (impl_dot p n _).mono ?_
    rintro e w1 ⟨rfl, hb⟩
    have hz := hb.size
    simp at hz
    have C2 := cell_next hb (b := w.heap.size) (o := 2) (v := .int .i64 v) (by go_simp) (by simp)
    have C3 := cell_next hb (b := w.heap.size) (o := 3) (v := .bool d) (by go_simp) (by simp)
    have hB : Hid (Below w.heap.size w w1) := ((Below.refl _ _).alloc (Nat.le_refl _) _).trans (hb.mono (by simp))
    clear hb
    go_wp2_with fail
    refine (valueOK_any v d _).mono ?_
    rintro e w2 ⟨rfl, rfl⟩
    go_wp2
    go_ret
    exact ⟨ret_bool (by rw [HS.out, h]; rfl), hB.out⟩
def cmpI (x y : Int) : Int := if x < y then -1 else if y < x then 1 else 0
set_option maxHeartbeats 400000 in
theorem cmp_any (x y : Int) (w : World) :
    Calls Tryz.prog 64 #[.int .i64 x, .int .i64 y] w fun e w' => e = .returned (.int .i64 (cmpI x y)) ∧ w' = w := by
  have cs : x < y ∨ y < x ∨ x = y := by omega
  rcases cs with h | h | h
  case inr.inr =>
    subst h
    have HB : Hid (cmpI x x = 0) := by unfold Hid cmpI; simp
    go_enter Tryz.func64, Tryz.ntmps64
    go_wp2
    go_ret
    exact ⟨ret_int HB.out.symm, rfl⟩
  case inl =>
    have HB : Hid (cmpI x y = -1) := by unfold Hid cmpI; simp [h]
    go_enter Tryz.func64, Tryz.ntmps64
    go_wp2
    go_ret
    exact ⟨ret_int HB.out.symm, rfl⟩
  case inr.inl =>
    have HB : Hid (cmpI x y = 1) := by unfold Hid cmpI; rw [if_neg (by omega), if_pos h]
    go_enter Tryz.func64, Tryz.ntmps64
    go_wp2
    go_ret
    exact ⟨ret_int HB.out.symm, rfl⟩
set_option maxHeartbeats 1000000 in
theorem or2_any (g : Nat) (x y r : Int) (hr : Hid (r = if x = 0 then y else x)) (w : World) (c0 : w.cell? ⟨g, 0, none⟩ = some (.int .i64 x)) (c1 : w.cell? ⟨g, 1, none⟩ = some (.int .i64 y)) :
    Calls Tryz.prog 63 #[.slice (some ⟨g, 0, none⟩) 2 2] w fun e w' => e = .returned (.int .i64 r) ∧ w' = w := by
  by_cases hx : x = 0
  · subst hx
    have HR : Hid (r = y) := hr.out.trans (if_pos rfl)
    by_cases hy : y = 0
    · subst hy
      go_enter Tryz.func63, Tryz.ntmps63
      go_wp2
      refine wp_loop_rounds 3 ?_
      repeat (rw [rounds_succ]; go_wp2)
      go_ret
      exact ⟨ret_int HR.out.symm, rfl⟩
    · have d0 : (y == 0) = false := beq_eq_false_iff_ne.2 hy
      go_enter Tryz.func63, Tryz.ntmps63
      go_wp2
      refine wp_loop_rounds 3 ?_
      repeat (rw [rounds_succ]; go_wp2)
      go_ret
      exact ⟨ret_int HR.out.symm, rfl⟩
  · have d0 : (x == 0) = false := beq_eq_false_iff_ne.2 hx
    have HR : Hid (r = x) := hr.out.trans (if_neg hx)
    go_enter Tryz.func63, Tryz.ntmps63
    go_wp2
    refine wp_loop_rounds 3 ?_
    repeat (rw [rounds_succ]; go_wp2)
    go_ret
    exact ⟨ret_int HR.out.symm, rfl⟩
theorem dots_or (x y u v : Int) : (if cmpI x u = 0 then cmpI y v else cmpI x u) = dotsI x y u v := by
  unfold cmpI dotsI
  by_cases h1 : x < u
  · simp [h1]
  · by_cases h2 : u < x
    · simp [h1, h2]
    · simp [h1, h2]
theorem cd_keep {x y p q : Int} {w W W' : World} (hb : Below W.heap.size W W') (h : W.cell? ⟨w.heap.size, 0, none⟩ = some (.int .i64 x) ∧ W.cell? ⟨w.heap.size, 1, none⟩ = some (.int .i64 y) ∧ W.cell? ⟨w.heap.size + 1, 0, none⟩ = some (.int .i64 p) ∧ W.cell? ⟨w.heap.size + 1, 1, none⟩ = some (.int .i64 q) ∧ Below w.heap.size w W ∧ w.heap.size + 2 ≤ W.heap.size) : W'.cell? ⟨w.heap.size, 0, none⟩ = some (.int .i64 x) ∧ W'.cell? ⟨w.heap.size, 1, none⟩ = some (.int .i64 y) ∧ W'.cell? ⟨w.heap.size + 1, 0, none⟩ = some (.int .i64 p) ∧ W'.cell? ⟨w.heap.size + 1, 1, none⟩ = some (.int .i64 q) ∧ Below w.heap.size w W' ∧ w.heap.size + 2 ≤ W'.heap.size := by
  obtain ⟨c0, c1, c2, c3, hB, hz⟩ := h
  have hq := hb.size
  exact ⟨cell_next hb c0 (by omega), cell_next hb c1 (by omega), cell_next hb c2 (by omega), cell_next hb c3 (by omega), hB.trans (hb.mono (by omega)), by omega⟩
theorem cd_alloc {x y p q : Int} {w W : World} {ob : Obj} (h : W.cell? ⟨w.heap.size, 0, none⟩ = some (.int .i64 x) ∧ W.cell? ⟨w.heap.size, 1, none⟩ = some (.int .i64 y) ∧ W.cell? ⟨w.heap.size + 1, 0, none⟩ = some (.int .i64 p) ∧ W.cell? ⟨w.heap.size + 1, 1, none⟩ = some (.int .i64 q) ∧ Below w.heap.size w W ∧ w.heap.size + 2 ≤ W.heap.size) : (W.alloc ob).cell? ⟨w.heap.size, 0, none⟩ = some (.int .i64 x) ∧ (W.alloc ob).cell? ⟨w.heap.size, 1, none⟩ = some (.int .i64 y) ∧ (W.alloc ob).cell? ⟨w.heap.size + 1, 0, none⟩ = some (.int .i64 p) ∧ (W.alloc ob).cell? ⟨w.heap.size + 1, 1, none⟩ = some (.int .i64 q) ∧ Below w.heap.size w (W.alloc ob) ∧ w.heap.size + 2 ≤ (W.alloc ob).heap.size := cd_keep ((Below.refl _ _).alloc (Nat.le_refl _) _) h
theorem cd_drew {x y p q : Int} {w W : World} (h : W.cell? ⟨w.heap.size, 0, none⟩ = some (.int .i64 x) ∧ W.cell? ⟨w.heap.size, 1, none⟩ = some (.int .i64 y) ∧ W.cell? ⟨w.heap.size + 1, 0, none⟩ = some (.int .i64 p) ∧ W.cell? ⟨w.heap.size + 1, 1, none⟩ = some (.int .i64 q) ∧ Below w.heap.size w W ∧ w.heap.size + 2 ≤ W.heap.size) : W.drew.cell? ⟨w.heap.size, 0, none⟩ = some (.int .i64 x) ∧ W.drew.cell? ⟨w.heap.size, 1, none⟩ = some (.int .i64 y) ∧ W.drew.cell? ⟨w.heap.size + 1, 0, none⟩ = some (.int .i64 p) ∧ W.drew.cell? ⟨w.heap.size + 1, 1, none⟩ = some (.int .i64 q) ∧ Below w.heap.size w W.drew ∧ w.heap.size + 2 ≤ W.drew.heap.size := by
  obtain ⟨c0, c1, c2, c3, hB, hz⟩ := h
  exact ⟨c0, c1, c2, c3, hB.drew, hz⟩
theorem cd_below {x y p q : Int} {w W : World} (h : W.cell? ⟨w.heap.size, 0, none⟩ = some (.int .i64 x) ∧ W.cell? ⟨w.heap.size, 1, none⟩ = some (.int .i64 y) ∧ W.cell? ⟨w.heap.size + 1, 0, none⟩ = some (.int .i64 p) ∧ W.cell? ⟨w.heap.size + 1, 1, none⟩ = some (.int .i64 q) ∧ Below w.heap.size w W ∧ w.heap.size + 2 ≤ W.heap.size) : Below w.heap.size w W := by
  obtain ⟨c0, c1, c2, c3, hB, hz⟩ := h
  exact hB
theorem cd_set {x y p q : Int} {w W : World} {t j : Nat} {u : Value} (h : W.cell? ⟨w.heap.size, 0, none⟩ = some (.int .i64 x) ∧ W.cell? ⟨w.heap.size, 1, none⟩ = some (.int .i64 y) ∧ W.cell? ⟨w.heap.size + 1, 0, none⟩ = some (.int .i64 p) ∧ W.cell? ⟨w.heap.size + 1, 1, none⟩ = some (.int .i64 q) ∧ Below w.heap.size w W ∧ w.heap.size + 2 ≤ W.heap.size) (ht : w.heap.size + 2 ≤ t) : (W.setCell ⟨t, j, none⟩ u).cell? ⟨w.heap.size, 0, none⟩ = some (.int .i64 x) ∧ (W.setCell ⟨t, j, none⟩ u).cell? ⟨w.heap.size, 1, none⟩ = some (.int .i64 y) ∧ (W.setCell ⟨t, j, none⟩ u).cell? ⟨w.heap.size + 1, 0, none⟩ = some (.int .i64 p) ∧ (W.setCell ⟨t, j, none⟩ u).cell? ⟨w.heap.size + 1, 1, none⟩ = some (.int .i64 q) ∧ Below w.heap.size w (W.setCell ⟨t, j, none⟩ u) ∧ w.heap.size + 2 ≤ (W.setCell ⟨t, j, none⟩ u).heap.size := by
  obtain ⟨c0, c1, c2, c3, hB, hz⟩ := h
  exact ⟨cell_set c0 (by omega), cell_set c1 (by omega), cell_set c2 (by omega), cell_set c3 (by omega), hB.setCell (by simp; omega) _, by simpa [World.setCell] using hz⟩
theorem cd_start {x y p q : Int} {w : World} : ((w.alloc (.cells #[.int .i64 x, .int .i64 y] 40)).alloc (.cells #[.int .i64 p, .int .i64 q] 40)).drew.cell? ⟨w.heap.size, 0, none⟩ = some (.int .i64 x) ∧ ((w.alloc (.cells #[.int .i64 x, .int .i64 y] 40)).alloc (.cells #[.int .i64 p, .int .i64 q] 40)).drew.cell? ⟨w.heap.size, 1, none⟩ = some (.int .i64 y) ∧ ((w.alloc (.cells #[.int .i64 x, .int .i64 y] 40)).alloc (.cells #[.int .i64 p, .int .i64 q] 40)).drew.cell? ⟨w.heap.size + 1, 0, none⟩ = some (.int .i64 p) ∧ ((w.alloc (.cells #[.int .i64 x, .int .i64 y] 40)).alloc (.cells #[.int .i64 p, .int .i64 q] 40)).drew.cell? ⟨w.heap.size + 1, 1, none⟩ = some (.int .i64 q) ∧ Below w.heap.size w ((w.alloc (.cells #[.int .i64 x, .int .i64 y] 40)).alloc (.cells #[.int .i64 p, .int .i64 q] 40)).drew ∧ w.heap.size + 2 ≤ ((w.alloc (.cells #[.int .i64 x, .int .i64 y] 40)).alloc (.cells #[.int .i64 p, .int .i64 q] 40)).drew.heap.size := by
  refine ⟨?_, ?_, ?_, ?_, (((Below.refl _ _).alloc (by simp) _).alloc (by simp) _).drew, ?_⟩
  all_goals first | (go_simp; done) | (simp; done) | (simp; omega)
theorem cd_start0 {x y p q : Int} {w : World} : ((w.alloc (.cells #[.int .i64 x, .int .i64 y] 40)).alloc (.cells #[.int .i64 p, .int .i64 q] 40)).cell? ⟨w.heap.size, 0, none⟩ = some (.int .i64 x) ∧ ((w.alloc (.cells #[.int .i64 x, .int .i64 y] 40)).alloc (.cells #[.int .i64 p, .int .i64 q] 40)).cell? ⟨w.heap.size, 1, none⟩ = some (.int .i64 y) ∧ ((w.alloc (.cells #[.int .i64 x, .int .i64 y] 40)).alloc (.cells #[.int .i64 p, .int .i64 q] 40)).cell? ⟨w.heap.size + 1, 0, none⟩ = some (.int .i64 p) ∧ ((w.alloc (.cells #[.int .i64 x, .int .i64 y] 40)).alloc (.cells #[.int .i64 p, .int .i64 q] 40)).cell? ⟨w.heap.size + 1, 1, none⟩ = some (.int .i64 q) ∧ Below w.heap.size w ((w.alloc (.cells #[.int .i64 x, .int .i64 y] 40)).alloc (.cells #[.int .i64 p, .int .i64 q] 40)) ∧ w.heap.size + 2 ≤ ((w.alloc (.cells #[.int .i64 x, .int .i64 y] 40)).alloc (.cells #[.int .i64 p, .int .i64 q] 40)).heap.size := by
  refine ⟨?_, ?_, ?_, ?_, (((Below.refl _ _).alloc (by simp) _).alloc (by simp) _), ?_⟩
  all_goals first | (go_simp; done) | (simp; done) | (simp; omega)
set_option maxHeartbeats 2000000 in
theorem cmpDots_any (x y p q : Int) (w : World) :
    Calls Tryz.prog 34 #[.agg #[.int .i64 x, .int .i64 y], .agg #[.int .i64 p, .int .i64 q]] w fun e w' => e = .returned (.int .i64 (dotsI x y p q)) ∧ Below w.heap.size w w' := by
  have HD : Hid (dotsI x y p q = if cmpI x p = 0 then cmpI y q else cmpI x p) := (dots_or x y p q).symm
  go_enter Tryz.func34, Tryz.ntmps34
  go_wp2_with fail
  go_region_held3 (fun w' => w'.cell? ⟨w.heap.size, 0, none⟩ = some (.int .i64 x) ∧ w'.cell? ⟨w.heap.size, 1, none⟩ = some (.int .i64 y) ∧ w'.cell? ⟨w.heap.size + 1, 0, none⟩ = some (.int .i64 p) ∧ w'.cell? ⟨w.heap.size + 1, 1, none⟩ = some (.int .i64 q) ∧ Below w.heap.size w w' ∧ w.heap.size + 2 ≤ w'.heap.size) (with_reducible first | assumption | exact cd_start | exact cd_drew (cd_alloc cd_start0) | (refine cd_drew (cd_alloc ?_); assumption) | (refine cd_drew ?_; assumption) | (refine cd_alloc ?_; assumption) | (refine cd_keep (by assumption) ?_; assumption) | (refine cd_set (cd_set (cd_set ?_ ?_) ?_) ?_; all_goals (first | assumption | omega))) (first | (go_at_call 64; refine (cmp_any _ _ _).mono ?_; rintro e w1 ⟨rfl, rfl⟩) | (go_at_call 63; refine (or2_any _ (cmpI x p) (cmpI y q) (dotsI x y p q) HD _ (by go_simp) (by go_simp)).mono ?_; rintro e w1 ⟨rfl, rfl⟩))
  all_goals go_wp2
  all_goals go_ret
  all_goals refine ⟨rfl, ?_⟩
  all_goals first | exact cd_below (by with_reducible assumption) | exact (cd_below (by with_reducible assumption)).drew | skip
theorem eqv (a b c x y z : Int) (w : World) : Sem.run Tryz.prog (Op.equalIn 10000 32 (.agg #[.int .i64 a, .int .i64 b, .int .i64 c]) (.agg #[.int .i64 x, .int .i64 y, .int .i64 z])) w = .ok (a == x && (b == y && c == z)) w := by
  have h29 := Tryz.underlying32
  have h3 := Tryz.underlying3
  rw [Op.equalIn]
  simp only [Sem.run_bind, run_underlying h29, Result.andThen_ok, Bool.false_eq_true, if_false]
  simp [go_sem, h3, List.range', List.forIn_cons]
  cases h1 : (a == x) <;> cases h2 : (b == y) <;> cases h3 : (c == z) <;> simp_all [go_sem]
def sibB (x y : Sib) : Bool := x.p == y.p && (x.n == y.n && (x.v == y.v && x.d == y.d))
theorem eqs (x y : Sib) (w : World) : Sem.run Tryz.prog (Op.equalIn 10000 46 (.agg #[.int .i64 x.p, .int .i64 x.n, .int .i64 x.v, .bool x.d]) (.agg #[.int .i64 y.p, .int .i64 y.n, .int .i64 y.v, .bool y.d])) w = .ok (sibB x y) w := by
  have h42 := Tryz.underlying46
  have h40 := Tryz.underlying40
  have h3 := Tryz.underlying3
  have h4 := Tryz.underlying4
  have hs : Tryz.prog.stoodInHeld 46 = false := by kernel_rfl
  have hs' : Tryz.prog.stoodInHeld 40 = false := by kernel_rfl
  have ia : ∀ w, Sem.run Tryz.prog (isAgg 40) w = .ok true w := fun _ => by kernel_rfl
  have sz : ∀ w, Sem.run Tryz.prog (sizeOf 40) w = .ok 2 w := fun _ => by kernel_rfl
  unfold sibB
  rw [run_equalIn_struct w 9999 46 _ _ (by kernel_rfl) hs]
  simp [go_sem, h42, h40, h3, h4, hs', ia, sz]
  cases h1 : (x.p == y.p) <;> cases h2 : (x.n == y.n) <;> cases h3 : (x.v == y.v) <;> cases h4 : (x.d == y.d) <;> simp_all [go_sem]
def Same (l l2 : List Sib) (a b c x y z : Int) : Prop := (a == x && (b == y && c == z)) = true ∧ l.length = l2.length ∧ ∀ i (h : i < l.length) (h2 : i < l2.length), sibB l[i] l2[i] = true
theorem bool_no {r : Bool} {P : Prop} (h : Hid (r = true ↔ P)) (hn : ¬ P) : r = false := by
  cases r
  · rfl
  · exact (hn (h.out.1 rfl)).elim
theorem bool_yes {r : Bool} {P : Prop} (h : Hid (r = true ↔ P)) (hp : P) : r = true := h.out.2 hp
def Good (l : List Sib) (a b c : Int) (i : Nat) (h : i < l.length) : Prop := sibOK l[i].p l[i].n l[i].v l[i].d = true ∧ decide (l[i].n ≤ comp a b c l[i].p) = true ∧ ∀ h0 : 0 < i, dotsI l[i - 1].p l[i - 1].n l[i].p l[i].n < 0
def OkP (l : List Sib) (a b c : Int) : Prop := l.length ≤ 100 ∧ vvB a b c = true ∧ ∀ i (h : i < l.length), Good l a b c i h
theorem sib_node {x : Sib} (h : sibOK x.p x.n x.v x.d = true) : 0 ≤ x.p ∧ x.p < 3 := by
  unfold sibOK dotB at h
  simp at h
  omega
theorem box_alloc {w : World} {o : Obj} {g j : Nat} {v : Value} (h : w.cell? ⟨g, j, none⟩ = some v) (hg : g < w.heap.size) : (w.alloc o).cell? ⟨g, j, none⟩ = some v :=
  cell_next ((Below.refl _ _).alloc (Nat.le_refl _) _) h hg
theorem ok_keep5 {W w1 : World} {g h p q : Nat} {ao : Option Addr} {n cap : Nat} {x y : Sib} (hb : Below W.drew.heap.size W.drew w1) (c0 : W.cell? ⟨g, 0, none⟩ = some (.slice ao n cap)) (c1 : W.cell? ⟨h, 0, none⟩ = some (.int .i64 y.p)) (c2 : W.cell? ⟨h, 1, none⟩ = some (.int .i64 y.n)) (c3 : W.cell? ⟨p, q, none⟩ = some (.int .i64 x.p)) (c4 : W.cell? ⟨p, q + 1, none⟩ = some (.int .i64 x.n)) : w1.cell? ⟨g, 0, none⟩ = some (.slice ao n cap) ∧ w1.cell? ⟨h, 0, none⟩ = some (.int .i64 y.p) ∧ w1.cell? ⟨h, 1, none⟩ = some (.int .i64 y.n) ∧ w1.cell? ⟨p, q, none⟩ = some (.int .i64 x.p) ∧ w1.cell? ⟨p, q + 1, none⟩ = some (.int .i64 x.n) :=
  ⟨cell_next hb c0 (cell_lt (x := ⟨g, 0, none⟩) c0), cell_next hb c1 (cell_lt (x := ⟨h, 0, none⟩) c1), cell_next hb c2 (cell_lt (x := ⟨h, 1, none⟩) c2), cell_next hb c3 (cell_lt (x := ⟨p, q, none⟩) c3), cell_next hb c4 (cell_lt (x := ⟨p, q + 1, none⟩) c4)⟩
set_option maxHeartbeats 4000000 in
theorem implOK_any (cap : Nat) (ao : Option Addr) (l : List Sib) (a b c : Int) (r : Bool) (hres : Hid (r = true ↔ OkP l a b c)) (w : World) (hm : (l.length : Int) ≤ 1048576) (hr0 : SibRow w ao l) :
    Calls Tryz.prog 12 #[.agg #[.slice ao l.length cap, .int .i64 a, .int .i64 b, .int .i64 c]] w fun e w' => e = .returned (.bool r) ∧ Below w.heap.size w w' := by
  have hr : Hid (SibRow w ao l) := hr0
  clear hr0
  by_cases hlen : l.length ≤ 100
  case neg =>
    have HR : Hid (r = false) := bool_no hres (fun h => hlen h.1)
    have d0 : decide ((100 : Int) < (l.length : Int)) = true := decide_eq_true (by omega)
    have d1 : (100 : Int) < (l.length : Int) := by omega
    clear hlen
    go_enter Tryz.func12, Tryz.ntmps12
    go_wp2
    go_ret
    refine ⟨ret_bool HR.out.symm, ?_⟩
    repeat (first | exact Below.refl _ _ | refine Below.drew ?_ | refine below_drewN ?_ _ | refine Below.alloc ?_ (by first | (simp; done) | (simp; omega)) _ | refine Below.setCell ?_ (by first | (simp; done) | (simp; omega)) _)
  have d0 : decide ((100 : Int) < (l.length : Int)) = false := decide_eq_false (by omega)
  cases hv : vvB a b c
  · have HR : Hid (r = false) := bool_no hres (fun h => by rw [h.2.1] at hv; cases hv)
    go_enter Tryz.func12, Tryz.ntmps12
    go_wp2_with fail
    refine (impl_vv a b c _).mono ?_
    rintro e w1 ⟨rfl, hb⟩
    have hB : Hid (Below w.heap.size w w1) := ((Below.refl _ _).alloc (Nat.le_refl _) _).trans (hb.mono (by simp))
    clear hb
    go_wp2
    go_ret
    exact ⟨ret_bool HR.out.symm, hB.out⟩
  have HV : Hid (vvB a b c = true) := hv
  have HN : Hid (l.length ≤ 100) := hlen
  go_enter Tryz.func12, Tryz.ntmps12
  go_wp2_with fail
  refine (impl_vv a b c _).mono ?_
  rintro e w1 ⟨rfl, hb⟩
  have hB : Hid (Below w.heap.size w w1) := ((Below.refl _ _).alloc (Nat.le_refl _) _).trans (hb.mono (by simp))
  have C0 := cell_next hb (b := w.heap.size) (o := 0) (v := .slice ao l.length cap) (by go_simp) (by simp)
  have C1 := cell_next hb (b := w.heap.size) (o := 1) (v := .int .i64 a) (by go_simp) (by simp)
  have C2 := cell_next hb (b := w.heap.size) (o := 2) (v := .int .i64 b) (by go_simp) (by simp)
  have C3 := cell_next hb (b := w.heap.size) (o := 3) (v := .int .i64 c) (by go_simp) (by simp)
  have hz := hb.size
  simp at hz
  clear hb hlen
  go_wp2
  clear hv
  go_loopw [18] (fun s18 wr => ∃ k : Nat, k ≤ l.length ∧ s18 = .int .i64 k ∧ Below w.heap.size w wr ∧ (∀ i (h : i < l.length), i < k → Good l a b c i h) ∧ w.heap.size < wr.heap.size ∧ wr.cell? ⟨w.heap.size, 0, none⟩ = some (.slice ao l.length cap) ∧ wr.cell? ⟨w.heap.size, 1, none⟩ = some (.int .i64 a) ∧ wr.cell? ⟨w.heap.size, 2, none⟩ = some (.int .i64 b) ∧ wr.cell? ⟨w.heap.size, 3, none⟩ = some (.int .i64 c)) (fun s18 _ => l.length - (intOf s18).toNat)
  case atStart => exact ⟨0, by omega, rfl, hB.out, fun i h h' => by omega, by omega, C0, C1, C2, C3⟩
  case round =>
    clear hB C0 C1 C2 C3 hz
    obtain ⟨k, hk, rfl, hB0, hG0, hz, C0, C1, C2, C3⟩ := hrel
    have hB : Hid (Below w.heap.size w wr) := hB0
    have hG : Hid (∀ i (h : i < l.length), i < k → Good l a b c i h) := hG0
    clear hB0 hG0
    by_cases hkl : k < l.length
    · have hkl' : (k : Int) < (l.length : Int) := by omega
      have k0 : (0 : Int) ≤ (k : Int) := by omega
      rcases hr.out with h' | ⟨p, off, rfl, h2⟩
      · rw [h'] at hkl; simp at hkl
      obtain ⟨x0, x1, x2, x3⟩ := (h2 k hkl).next hB.out (cell_lt (x := ⟨p, off + k * 4, none⟩) (h2 k hkl).1)
      have hH2 : Hid (∀ i (h : i < l.length), SibAt w p (off + i * 4) l[i]) := h2
      clear h2
      go_wp2_with fail
      refine (implSib_any l[k].p l[k].n l[k].v l[k].d _).mono ?_
      rintro e w2 ⟨rfl, hb⟩
      have hz2 := hb.size
      simp at hz2
      have hB2 : Hid (Below w.heap.size w w2) := (hB.out.alloc (by omega) _).trans (hb.mono (by simp; omega))
      have D0 := cell_next hb (b := wr.heap.size) (o := 0) (v := .int .i64 l[k].p) (by go_simp) (by simp)
      have D1 := cell_next hb (b := wr.heap.size) (o := 1) (v := .int .i64 l[k].n) (by go_simp) (by simp)
      have E0 := cell_next hb (box_alloc C0 hz) (by simp; omega)
      have E1 := cell_next hb (box_alloc C1 hz) (by simp; omega)
      have E2 := cell_next hb (box_alloc C2 hz) (by simp; omega)
      have E3 := cell_next hb (box_alloc C3 hz) (by simp; omega)
      clear hb C0 C1 C2 C3 x0 x1 x2 x3 hB
      cases hs : sibOK l[k].p l[k].n l[k].v l[k].d
      · have HR : Hid (r = false) := bool_no hres (fun h => by rw [(h.2.2 k hkl).1] at hs; cases hs)
        go_wp2
        go_ret
        exact ⟨ret_bool HR.out.symm, hB2.out⟩
      have HS : Hid (sibOK l[k].p l[k].n l[k].v l[k].d = true) := hs
      obtain ⟨n0, n3⟩ := sib_node hs
      go_wp2_with fail
      refine (knows_any a b c l[k].p l[k].n _ n0 n3).mono ?_
      rintro e w3 ⟨rfl, hb⟩
      have hz3 := hb.size
      have hB3 : Hid (Below w.heap.size w w3) := hB2.out.trans (hb.mono (by omega))
      have D0' := cell_next hb D0 (by omega)
      have D1' := cell_next hb D1 (by omega)
      have F0 := cell_next hb E0 (by omega)
      have F1 := cell_next hb E1 (by omega)
      have F2 := cell_next hb E2 (by omega)
      have F3 := cell_next hb E3 (by omega)
      have hz4 : Hid (w.heap.size < w3.heap.size) := by show _ < _; omega
      clear hb D0 D1 E0 E1 E2 E3 hB2
      cases hk1 : decide (l[k].n ≤ comp a b c l[k].p)
      · have HR : Hid (r = false) := bool_no hres (fun h => by rw [(h.2.2 k hkl).2.1] at hk1; cases hk1)
        go_wp2
        go_ret
        exact ⟨ret_bool HR.out.symm, hB3.out⟩
      have HK : Hid (decide (l[k].n ≤ comp a b c l[k].p) = true) := hk1
      clear n0 n3
      rcases Nat.eq_zero_or_pos k with hk0 | hk0
      · subst hk0
        have hG1 : ∀ i (h : i < l.length), i < 0 + 1 → Good l a b c i h := fun i h h3 => by
          have e : i = 0 := by omega
          subst e
          exact ⟨HS.out, HK.out, fun h0 => by omega⟩
        clear hs hk1
        go_wp2
        go_quiet (fail)
        go_wp2
        go_roundw
        case rel => first | exact ⟨0 + 1, by omega, by go_num, below_drewN hB3.out _, hG1, hz4.out, F0, F1, F2, F3⟩ | ((repeat apply Exists.intro); exact ⟨⟨0 + 1, by omega, by go_num, below_drewN hB3.out _, hG1, hz4.out, F0, F1, F2, F3⟩, rfl⟩)
        case measure => simp [intOf]; omega
      · obtain ⟨j, hj⟩ : ∃ j, k = j + 1 := ⟨k - 1, by omega⟩
        have hjk : (k : Int) - 1 = (j : Int) := by omega
        have HJ : Hid (k = j + 1) := hj
        have hjl : j < l.length := by omega
        obtain ⟨y0, y1, _, _⟩ := (hH2.out j hjl).next hB3.out (cell_lt (x := ⟨p, off + j * 4, none⟩) (hH2.out j hjl).1)
        have j0 : (0 : Int) ≤ (j : Int) := by omega
        have jl : (j : Int) < (l.length : Int) := by omega
        have jk : decide (0 < k) = true := decide_eq_true (by omega)
        have jw : IntKind.i64.wrap (j : Int) = (j : Int) := IntWalk.i64_in _ (by omega)
        clear hj hk0
        clear hs hk1
        cases hd : decide (0 ≤ dotsI l[j].p l[j].n l[k].p l[k].n)
        · have HD : Hid (dotsI l[j].p l[j].n l[k].p l[k].n < 0) := by
            have := of_decide_eq_false hd
            show _ < _
            omega
          have hG1 : ∀ i (h : i < l.length), i < k + 1 → Good l a b c i h := fun i h h3 => by
            by_cases e : i = k
            · subst e; exact ⟨HS.out, HK.out, fun _ => by have e := HJ.out; subst e; simpa using HD.out⟩
            · exact hG.out i h (by omega)
          go_wp2
          go_region_held3 (fun w' => w'.cell? ⟨w.heap.size, 0, none⟩ = some (.slice (some ⟨p, off, none⟩) l.length cap) ∧ w'.cell? ⟨wr.heap.size, 0, none⟩ = some (.int .i64 l[k].p) ∧ w'.cell? ⟨wr.heap.size, 1, none⟩ = some (.int .i64 l[k].n) ∧ w'.cell? ⟨p, off + j * 4, none⟩ = some (.int .i64 l[j].p) ∧ w'.cell? ⟨p, off + j * 4 + 1, none⟩ = some (.int .i64 l[j].n)) (first | (with_reducible assumption) | exact ⟨F0, D0', D1', y0, y1⟩) (first | (go_at_call 34; refine (cmpDots_any l[j].p l[j].n l[k].p l[k].n _).mono ?_; rintro e w4 ⟨rfl, hb⟩; have hK := ok_keep5 hb F0 D0' D1' y0 y1))
          have hB4 : Hid (Below w.heap.size w w4) := hB3.out.drew.trans (hb.mono hB3.out.size)
          have G0 := cell_next hb F0 hz4.out
          have G1 := cell_next hb F1 hz4.out
          have G2 := cell_next hb F2 hz4.out
          have G3 := cell_next hb F3 hz4.out
          have hz5 : Hid (w.heap.size < w4.heap.size) := Nat.lt_of_lt_of_le hz4.out hb.size
          clear hb hK F0 F1 F2 F3 D0' D1' y0 y1
          go_wp2
          go_roundw
          case rel => first | exact ⟨k + 1, by omega, by go_num, hB4.out, hG1, hz5.out, G0, G1, G2, G3⟩ | ((repeat apply Exists.intro); exact ⟨⟨k + 1, by omega, by go_num, hB4.out, hG1, hz5.out, G0, G1, G2, G3⟩, rfl⟩)
          case measure => simp [intOf]; omega
        · have HR : Hid (r = false) := bool_no hres (fun h => by
            have h1 := (h.2.2 k hkl).2.2 (by have := HJ.out; omega)
            have h2 := of_decide_eq_true hd
            have e := HJ.out
            subst e
            simp at h1
            omega)
          go_wp2
          go_region_held3 (fun w' => w'.cell? ⟨w.heap.size, 0, none⟩ = some (.slice (some ⟨p, off, none⟩) l.length cap) ∧ w'.cell? ⟨wr.heap.size, 0, none⟩ = some (.int .i64 l[k].p) ∧ w'.cell? ⟨wr.heap.size, 1, none⟩ = some (.int .i64 l[k].n) ∧ w'.cell? ⟨p, off + j * 4, none⟩ = some (.int .i64 l[j].p) ∧ w'.cell? ⟨p, off + j * 4 + 1, none⟩ = some (.int .i64 l[j].n)) (first | (with_reducible assumption) | exact ⟨F0, D0', D1', y0, y1⟩) (first | (go_at_call 34; refine (cmpDots_any l[j].p l[j].n l[k].p l[k].n _).mono ?_; rintro e w4 ⟨rfl, hb⟩; have hK := ok_keep5 hb F0 D0' D1' y0 y1))
          have hB4 : Hid (Below w.heap.size w w4) := hB3.out.drew.trans (hb.mono hB3.out.size)
          clear hb hK F0 F1 F2 F3 D0' D1' y0 y1
          go_wp2
          go_ret
          exact ⟨ret_bool HR.out.symm, hB4.out⟩
    · have hkl' : ¬ (k : Int) < (l.length : Int) := by omega
      have HR : Hid (r = true) := bool_yes hres ⟨HN.out, HV.out, fun i h => hG.out i h (by omega)⟩
      go_wp2
      go_ret
      exact ⟨ret_bool HR.out.symm, hB.out⟩
theorem info_sib : (Tryz.prog.info? 46).map (fun i => (i.zero, i.size, i.bytes)) = some (some (.agg #[.int .i64 0, .int .i64 0, .int .i64 0, .bool false]), 4, 32) := by kernel_rfl
def fil (a b c : Int) (l : List Sib) : List Sib := l.filter fun s => !decide (s.n ≤ comp a b c s.p)
theorem fil_miss {a b c : Int} {l : List Sib} {k : Nat} (h : k < l.length) (hd : decide (l[k].n ≤ comp a b c l[k].p) = true) : fil a b c (l.take (k + 1)) = fil a b c (l.take k) := by
  unfold fil
  rw [List.take_succ_eq_append_getElem h, List.filter_append, List.filter_cons_of_neg (by simp [hd]), List.filter_nil, List.append_nil]
theorem fil_hit {a b c : Int} {l : List Sib} {k : Nat} (h : k < l.length) (hd : decide (l[k].n ≤ comp a b c l[k].p) = false) : fil a b c (l.take (k + 1)) = fil a b c (l.take k) ++ [l[k]] := by
  unfold fil
  rw [List.take_succ_eq_append_getElem h, List.filter_append, List.filter_cons_of_pos (by simp [hd]), List.filter_nil]
theorem fil_le (a b c : Int) (l : List Sib) (k : Nat) : (fil a b c (l.take k)).length ≤ k := by
  refine Nat.le_trans (List.length_filter_le _ _) ?_
  simp
  omega
theorem own_cast {w : World} {base e size n n' : Nat} {v : Value} {xs xs' : List Value} (h : w.ownsRow base e size v n xs) (h1 : n = n') (h2 : xs = xs') : w.ownsRow base e size v n' xs' := by subst h1; subst h2; exact h
theorem lit_at {W : World} {x : Sib} {t : TypeId} : SibAt (W.alloc (.cells #[.int .i64 x.p, .int .i64 x.n, .int .i64 x.v, .bool x.d] t)) W.heap.size 0 x := by
  refine ⟨?_, ?_, ?_, ?_⟩ <;> go_simp
theorem addr_add (b o j : Nat) : ((⟨b, o, none⟩ : Addr).add j) = ⟨b, o + j, none⟩ := by
  unfold Addr.add
  by_cases hk : j = 0 <;> simp [hk]
theorem one_cells {W : World} {g : Nat} {x : Sib} (h : SibAt W g 0 x) : ∀ j u, (flat [x])[j]? = some u → W.cell? ((⟨g, 0, none⟩ : Addr).add j) = some u := by
  intro j u hu
  rw [addr_add]
  refine flat_cells (l := [x]) (off := 0) rfl (fun i hi => ?_) j u hu
  have : i = 0 := by simpa using hi
  subst this
  simpa using h
theorem Gro.none_ne {b : Nat} : Value.ownBlock (.slice none 0 0) ≠ some b := by simp [Value.ownBlock]
/-- What one round does where the sibling is laid behind. -/
theorem au_hit {w wr w2 w3 : World} {v vr v' : Value} {o1 o2 : Obj} {m0 l : List Sib} {a b c : Int} {k e : Nat} (hk : k < l.length) (hd : decide (l[k].n ≤ comp a b c l[k].p) = false) (G : Gro w wr v vr) (hb : Below (wr.alloc o1).heap.size (wr.alloc o1) w2) (hg : Gro (w2.alloc o2) w3 vr v')
    (hown : w3.ownsRow 0 e 4 v' ((m0 ++ fil a b c (l.take k)).length + 1) (flat (m0 ++ fil a b c (l.take k)) ++ flat [l[k]])) :
    Gro w w3 v v' ∧ w3.ownsRow 0 e 4 v' (m0 ++ fil a b c (l.take (k + 1))).length (flat (m0 ++ fil a b c (l.take (k + 1)))) := by
  refine ⟨G.trans ((Gro.of_below ((Below.refl _ _).alloc (Nat.le_refl _) _)).trans ((Gro.of_below hb).trans ((Gro.of_below ((Below.refl _ _).alloc (Nat.le_refl _) _)).trans hg))), own_cast hown ?_ ?_⟩
  · rw [fil_hit hk hd]; simp; omega
  · rw [fil_hit hk hd, ← List.append_assoc, flat_append _ [l[k]]]
set_option maxHeartbeats 4000000 in
theorem au_any (cap : Nat) (ao : Option Addr) (l m0 : List Sib) (a b c : Int) (v : Value) (w : World) (hm : m0.length + l.length ≤ 2097152) (hn : ∀ i (h : i < l.length), 0 ≤ l[i].p ∧ l[i].p < 3) (hr0 : SibRow w ao l) (hne0 : ∀ x, ao = some x → l ≠ [] → v.ownBlock ≠ some x.block) (ho0 : w.ownsRow 0 46 4 v m0.length (flat m0)) :
    Calls Tryz.prog 39 #[v, .agg #[.int .i64 a, .int .i64 b, .int .i64 c], .slice ao l.length cap] w fun e w' => ∃ v', e = .returned v' ∧ w'.ownsRow 0 46 4 v' (m0 ++ fil a b c l).length (flat (m0 ++ fil a b c l)) ∧ Gro w w' v v' := by
  have hr : Hid (SibRow w ao l) := hr0
  have hne : Hid (∀ x, ao = some x → l ≠ [] → v.ownBlock ≠ some x.block) := hne0
  have ho : Hid (w.ownsRow 0 46 4 v m0.length (flat m0)) := ho0
  have hnn : Hid (∀ i (h : i < l.length), 0 ≤ l[i].p ∧ l[i].p < 3) := hn
  have hvn : Hid (v.ownBlock ≠ some w.heap.size) := fun e => by have := (ho0.lt _ e).2; omega
  clear hr0 hne0 ho0 hn
  obtain ⟨i0, hi, hz0, hz1, hz2⟩ := info_parts info_sib
  have HI : Hid (Tryz.prog.info? 46 = some i0 ∧ i0.zero = some (.agg #[.int .i64 0, .int .i64 0, .int .i64 0, .bool false]) ∧ i0.size = 4 ∧ i0.bytes = 32) := ⟨hi, hz0, hz1, hz2⟩
  clear hi hz0 hz1 hz2
  go_enter Tryz.func39, Tryz.ntmps39
  go_wp2
  go_loopw [0, 11] (fun s0 s11 wr => ∃ k : Nat, k ≤ l.length ∧ s11 = .int .i64 k ∧ Gro w wr v s0 ∧ wr.ownsRow 0 46 4 s0 (m0 ++ fil a b c (l.take k)).length (flat (m0 ++ fil a b c (l.take k))) ∧ w.heap.size < wr.heap.size ∧ s0.ownBlock ≠ some w.heap.size ∧ wr.cell? ⟨w.heap.size, 0, none⟩ = some (.int .i64 a) ∧ wr.cell? ⟨w.heap.size, 1, none⟩ = some (.int .i64 b) ∧ wr.cell? ⟨w.heap.size, 2, none⟩ = some (.int .i64 c)) (fun _ s11 _ => l.length - (intOf s11).toNat)
  case atStart => exact ⟨0, by omega, rfl, Gro.of_below ((Below.refl _ _).alloc (Nat.le_refl _) _), own_cast (ho.out.alloc _) (by simp [fil]) (by simp [fil]), by simp, hvn.out, by go_simp, by go_simp, by go_simp⟩
  case round =>
    obtain ⟨k, hk, rfl, hG0, hO0, hz, hv0, C0, C1, C2⟩ := hrel
    have hG : Hid (Gro w wr v u0) := hG0
    have hO : Hid (wr.ownsRow 0 46 4 u0 (m0 ++ fil a b c (l.take k)).length (flat (m0 ++ fil a b c (l.take k)))) := hO0
    have hV : Hid (u0.ownBlock ≠ some w.heap.size) := hv0
    clear hG0 hO0 hv0
    by_cases hkl : k < l.length
    · have hkl' : (k : Int) < (l.length : Int) := by omega
      have k0 : (0 : Int) ≤ (k : Int) := by omega
      obtain ⟨n0, n3⟩ := hnn.out k hkl
      rcases hG.out.row hr.out (fun q hq => hne.out q hq (fun h => by rw [h] at hkl; simp at hkl)) with h' | ⟨p, off, rfl, h2⟩
      · rw [h'] at hkl; simp at hkl
      obtain ⟨x0, x1, x2, x3⟩ := h2 k hkl
      have E0 : ∀ o, (wr.alloc o).cell? ⟨w.heap.size, 0, none⟩ = some (.int .i64 a) := fun o => box_alloc C0 hz
      have E1 : ∀ o, (wr.alloc o).cell? ⟨w.heap.size, 1, none⟩ = some (.int .i64 b) := fun o => box_alloc C1 hz
      have E2 : ∀ o, (wr.alloc o).cell? ⟨w.heap.size, 2, none⟩ = some (.int .i64 c) := fun o => box_alloc C2 hz
      clear h2
      go_wp2_with fail
      refine (knows_any a b c l[k].p l[k].n _ n0 n3).mono ?_
      rintro e w2 ⟨rfl, hb0⟩
      have hb : Hid (Below _ _ w2) := hb0
      have D0 := cell_next hb0 (b := wr.heap.size) (o := 0) (v := .int .i64 l[k].p) (by go_simp) (by simp)
      have D1 := cell_next hb0 (b := wr.heap.size) (o := 1) (v := .int .i64 l[k].n) (by go_simp) (by simp)
      have D2 := cell_next hb0 (b := wr.heap.size) (o := 2) (v := .int .i64 l[k].v) (by go_simp) (by simp)
      have D3 := cell_next hb0 (b := wr.heap.size) (o := 3) (v := .bool l[k].d) (by go_simp) (by simp)
      have H0 : Hid (w2.cell? ⟨w.heap.size, 0, none⟩ = some (.int .i64 a)) := cell_next hb0 (E0 _) (by simp; omega)
      have H1 : Hid (w2.cell? ⟨w.heap.size, 1, none⟩ = some (.int .i64 b)) := cell_next hb0 (E1 _) (by simp; omega)
      have H2 : Hid (w2.cell? ⟨w.heap.size, 2, none⟩ = some (.int .i64 c)) := cell_next hb0 (E2 _) (by simp; omega)
      have hz2 := hb0.size
      simp at hz2
      have hO2 : Hid (w2.ownsRow 0 46 4 u0 (m0 ++ fil a b c (l.take k)).length (flat (m0 ++ fil a b c (l.take k)))) := own_next (hO.out.alloc _) hb0
      have HF := fil_le a b c l k
      have HL : Hid ((m0 ++ fil a b c (l.take k)).length + 1 ≤ 2097153) := by
        show _ ≤ _
        simp only [List.length_append]
        omega
      clear hb0 HF hO x0 x1 x2 x3 E0 E1 E2 C0 C1 C2
      cases hk1 : decide (l[k].n ≤ comp a b c l[k].p)
      · have HK : Hid (decide (l[k].n ≤ comp a b c l[k].p) = false) := hk1
        go_wp2_with (first
          | (at_builtin; refine wpList_append2 rfl _ _ 30 rfl 46 i0 (.agg #[.int .i64 0, .int .i64 0, .int .i64 0, .bool false]) 4 32 Tryz.underlying30 HI.out.1 HI.out.2.1 HI.out.2.2.1 HI.out.2.2.2 rfl (by decide) _ _ _ rfl (hO2.out.alloc _) ⟨w2.heap.size, 0, none⟩ 1 1 (flat [l[k]]) rfl rfl (one_cells lit_at) (flat_one _) ?c3 ?c4 ?_)
          | go_in)
        case c3 => have := HL.out; unfold maxLen; omega
        case c4 => have := HL.out; omega
        intro v' w3 hown' hgro
        obtain ⟨G3, O3⟩ := au_hit (m0 := m0) hkl HK.out hG.out hb.out hgro (own_cast hown' (by simp) rfl)
        have hz3 : Hid (w.heap.size < w3.heap.size) := Nat.lt_of_lt_of_le (by simp; omega) hgro.size
        have hV3 : Hid (v'.ownBlock ≠ some w.heap.size) := hgro.ne (by simp; omega) hV.out
        have I0 : Hid (w3.cell? ⟨w.heap.size, 0, none⟩ = some (.int .i64 a)) := hgro.cell (box_alloc H0.out (by omega)) hV.out
        have I1 : Hid (w3.cell? ⟨w.heap.size, 1, none⟩ = some (.int .i64 b)) := hgro.cell (box_alloc H1.out (by omega)) hV.out
        have I2 : Hid (w3.cell? ⟨w.heap.size, 2, none⟩ = some (.int .i64 c)) := hgro.cell (box_alloc H2.out (by omega)) hV.out
        have G4 : Hid (Gro w w3 v v') := G3
        have O4 : Hid (w3.ownsRow 0 46 4 v' (m0 ++ fil a b c (l.take (k + 1))).length (flat (m0 ++ fil a b c (l.take (k + 1))))) := O3
        clear G3 O3 hown' hgro hk1 D0 D1 D2 D3
        go_wp2
        go_roundw
        case rel => first | exact ⟨k + 1, by omega, by go_num, G4.out, O4.out, hz3.out, hV3.out, I0.out, I1.out, I2.out⟩ | ((repeat apply Exists.intro); exact ⟨⟨k + 1, by omega, by go_num, G4.out, O4.out, hz3.out, hV3.out, I0.out, I1.out, I2.out⟩, rfl⟩)
        case measure => simp [intOf]; omega
      · have HK : Hid (decide (l[k].n ≤ comp a b c l[k].p) = true) := hk1
        have G4 : Hid (Gro w w2 v u0) := hG.out.trans ((Gro.of_below ((Below.refl _ _).alloc (Nat.le_refl _) _)).trans (Gro.of_below hb.out))
        have O4 : Hid (w2.ownsRow 0 46 4 u0 (m0 ++ fil a b c (l.take (k + 1))).length (flat (m0 ++ fil a b c (l.take (k + 1))))) := by rw [fil_miss hkl HK.out]; exact hO2.out
        have hz3 : Hid (w.heap.size < w2.heap.size) := by show _ < _; omega
        go_wp2
        go_roundw
        case rel => first | exact ⟨k + 1, by omega, by go_num, G4.out, O4.out, hz3.out, hV.out, H0.out, H1.out, H2.out⟩ | ((repeat apply Exists.intro); exact ⟨⟨k + 1, by omega, by go_num, G4.out, O4.out, hz3.out, hV.out, H0.out, H1.out, H2.out⟩, rfl⟩)
        case measure => simp [intOf]; omega
    · have hkl' : ¬ (k : Int) < (l.length : Int) := by omega
      have e : k = l.length := by omega
      subst e
      go_wp2
      go_ret
      exact ⟨_, rfl, own_cast hO.out (by simp) (by simp), hG.out⟩
/-- An object's four cells in its box. -/
def Cells4 (W : World) (g : Nat) (v0 : Value) (a b c : Int) : Prop := W.cell? ⟨g, 0, none⟩ = some v0 ∧ W.cell? ⟨g, 1, none⟩ = some (.int .i64 a) ∧ W.cell? ⟨g, 2, none⟩ = some (.int .i64 b) ∧ W.cell? ⟨g, 3, none⟩ = some (.int .i64 c)
theorem c4_next {W W' : World} {g : Nat} {v0 : Value} {a b c : Int} (h : Hid (Cells4 W g v0 a b c)) (hb : Below W.heap.size W W') (hl : Hid (g < W.heap.size)) : Hid (Cells4 W' g v0 a b c) :=
  ⟨cell_next hb h.out.1 hl.out, cell_next hb h.out.2.1 hl.out, cell_next hb h.out.2.2.1 hl.out, cell_next hb h.out.2.2.2 hl.out⟩
theorem row_next {W W' : World} {ao : Option Addr} {l : List Sib} (h : Hid (SibRow W ao l)) (hb : Below W.heap.size W W') : Hid (SibRow W' ao l) := h.out.next hb
theorem bel_next {w W W' : World} (h : Hid (Below w.heap.size w W)) (hb : Below W.heap.size W W') : Hid (Below w.heap.size w W') := h.out.trans (hb.mono h.out.size)
theorem bel_alloc (W : World) (o : Obj) : Below W.heap.size W (W.alloc o) := (Below.refl _ _).alloc (Nat.le_refl _) _
theorem bel_drew (W : World) : Below W.heap.size W W.drew := (Below.refl _ _).drew
def Cells3 (W : World) (g : Nat) (a b c : Int) : Prop := W.cell? ⟨g, 0, none⟩ = some (.int .i64 a) ∧ W.cell? ⟨g, 1, none⟩ = some (.int .i64 b) ∧ W.cell? ⟨g, 2, none⟩ = some (.int .i64 c)
theorem c3_next {W W' : World} {g : Nat} {a b c : Int} (h : Hid (Cells3 W g a b c)) (hb : Below W.heap.size W W') (hl : Hid (g < W.heap.size)) : Hid (Cells3 W' g a b c) :=
  ⟨cell_next hb h.out.1 hl.out, cell_next hb h.out.2.1 hl.out, cell_next hb h.out.2.2 hl.out⟩
def Cells2 (W : World) (g : Nat) (a b : Int) : Prop := W.cell? ⟨g, 0, none⟩ = some (.int .i64 a) ∧ W.cell? ⟨g, 1, none⟩ = some (.int .i64 b)
theorem c2_next {W W' : World} {g : Nat} {a b : Int} (h : Hid (Cells2 W g a b)) (hb : Below W.heap.size W W') (hl : Hid (g < W.heap.size)) : Hid (Cells2 W' g a b) :=
  ⟨cell_next hb h.out.1 hl.out, cell_next hb h.out.2 hl.out⟩
theorem bool_of (P : Prop) : ∃ r : Bool, Hid (r = true ↔ P) := by
  by_cases h : P
  · exact ⟨true, ⟨fun _ => h, fun _ => rfl⟩⟩
  · exact ⟨false, ⟨fun h' => (by cases h'), fun h' => (h h').elim⟩⟩
theorem th_gro {W W' : World} {v v' : Value} {g n : Nat} (h : There W g n) (hG : Gro W W' v v') (hg : g < W.heap.size) (hne : v.ownBlock ≠ some g) : There W' g n := fun j hj => by
  have hq := hG.grown.block g hg (fun e => hne e.symm)
  obtain ⟨h1, h2⟩ := h j hj
  exact ⟨by rw [World.cell?_of_block (w := W) hq]; exact h1, by rw [World.frozen?_of_block (w := W) hq]; exact h2⟩
theorem nb {W0 wr : World} {v : Value} {k : Nat} (hG : Gro W0 wr (.slice none 0 0) v) (h : k < W0.heap.size) : v.ownBlock ≠ some k := fun e => by
  rcases hG.fresh k e with h' | h'
  · simp [Value.ownBlock] at h'
  · omega
theorem Gro.set1 {w W : World} {v : Value} {b o : Nat} {u : Value} (h : Gro w W (.slice none 0 0) v) (hb : w.heap.size ≤ b) : Gro w (W.setCell ⟨b, o, none⟩ u) (.slice none 0 0) v :=
  ⟨⟨by simpa [World.setCell] using h.grown.os, by simpa [World.setCell] using h.grown.tape, by simpa [World.setCell] using h.grown.output, by simpa [World.setCell] using h.grown.size, fun k hk hne => (Below.heap_setCell W ⟨b, o, none⟩ u k (fun e => by simp at e; omega)).trans (h.grown.block k hk hne)⟩, h.fresh⟩
theorem Gro.set4 {w W : World} {v : Value} {b o1 o2 o3 o4 : Nat} {u1 u2 u3 u4 : Value} (h : Gro w W (.slice none 0 0) v) (hb : w.heap.size ≤ b) : Gro w ((((W.setCell ⟨b, o1, none⟩ u1).setCell ⟨b, o2, none⟩ u2).setCell ⟨b, o3, none⟩ u3).setCell ⟨b, o4, none⟩ u4) (.slice none 0 0) v := (((h.set1 hb).set1 hb).set1 hb).set1 hb
/-- One event is ahead of another. -/
def Bef (s t : Sib) : Prop := s.p < t.p ∨ s.p = t.p ∧ s.n < t.n
theorem Bef.trans {s t u : Sib} (h : Bef s t) (k : Bef t u) : Bef s u := by unfold Bef at *; omega
theorem dots_pos {s t : Sib} : 0 < dotsI t.p t.n s.p s.n ↔ Bef s t := by
  unfold dotsI Bef; split <;> (try split) <;> (try split) <;> (try split) <;> omega
theorem dots_neg {s t : Sib} : dotsI s.p s.n t.p t.n < 0 ↔ Bef s t := by
  unfold dotsI Bef; split <;> (try split) <;> (try split) <;> (try split) <;> omega
/-- Siblings rise by their events. -/
def Rise (l : List Sib) : Prop := l.Pairwise Bef
theorem Rise.tail {s : Sib} {l : List Sib} (h : Rise (s :: l)) : Rise l := (List.pairwise_cons.1 h).2
theorem Rise.head {s : Sib} {l : List Sib} (h : Rise (s :: l)) : ∀ t ∈ l, Bef s t := (List.pairwise_cons.1 h).1
theorem Rise.filter {l : List Sib} (h : Rise l) (f : Sib → Bool) : Rise (l.filter f) := List.Pairwise.sublist List.filter_sublist h
/-- Where a sibling is put. -/
def pt (x : Sib) : List Sib → List Sib
  | [] => [x]
  | s :: l => if dotsI s.p s.n x.p x.n < 0 then s :: pt x l else x :: s :: l
theorem mem_pt {x s : Sib} : ∀ {l : List Sib}, s ∈ pt x l ↔ s = x ∨ s ∈ l
  | [] => by simp [pt]
  | t :: l => by
    unfold pt
    split
    · rw [List.mem_cons, mem_pt, List.mem_cons]
      constructor
      · rintro (h | h | h)
        · exact .inr (.inl h)
        · exact .inl h
        · exact .inr (.inr h)
      · rintro (h | h | h)
        · exact .inr (.inl h)
        · exact .inl h
        · exact .inr (.inr h)
    · rw [List.mem_cons]
theorem rise_pt {x : Sib} : ∀ {l : List Sib}, Rise l → (∀ s ∈ l, ¬ (s.p = x.p ∧ s.n = x.n)) → Rise (pt x l)
  | [], _, _ => by simp [pt, Rise]
  | t :: l, h, hx => by
    unfold pt
    split
    · next hd =>
      refine List.pairwise_cons.2 ⟨fun u hu => ?_, rise_pt h.tail (fun s hs => hx s (List.mem_cons_of_mem _ hs))⟩
      rcases mem_pt.1 hu with e | e
      · subst e; exact dots_neg.1 hd
      · exact h.head u e
    · next hd =>
      have hxt : Bef x t := by
        have h1 := hx t (by simp)
        have h2 : ¬ Bef t x := fun hb => hd (dots_neg.2 hb)
        unfold Bef at *; omega
      refine List.pairwise_cons.2 ⟨fun u hu => ?_, h⟩
      rcases List.mem_cons.1 hu with e | e
      · subst e; exact hxt
      · exact hxt.trans (h.head u e)
/-- A sibling is put at the first place where the one there is not ahead of it. -/
theorem pt_at (x : Sib) : ∀ (l : List Sib) (k : Nat), k ≤ l.length → (∀ i (h : i < l.length), i < k → dotsI l[i].p l[i].n x.p x.n < 0) → (∀ h : k < l.length, ¬ dotsI l[k].p l[k].n x.p x.n < 0) → l.take k ++ x :: l.drop k = pt x l
  | [], k, hk, _, _ => by simp at hk; subst hk; rfl
  | t :: l, 0, _, _, h2 => by
    have := h2 (by simp)
    simp at this
    unfold pt
    rw [if_neg (by simpa using this)]
    rfl
  | t :: l, k + 1, hk, h1, h2 => by
    have h0 := h1 0 (by simp) (by omega)
    unfold pt
    rw [if_pos (by simpa using h0)]
    have := pt_at x l k (by simpa using hk) (fun i h hi => by have := h1 (i + 1) (by simpa using h) (by omega); simpa using this) (fun h => by have := h2 (by simpa using h); simpa using this)
    simp [this]
theorem mem_fil {a b c : Int} {l : List Sib} {s : Sib} : s ∈ fil a b c l ↔ s ∈ l ∧ ¬ s.n ≤ comp a b c s.p := by
  unfold fil
  rw [List.mem_filter]
  simp
/-- A row's cells, or nothing. -/
def SrcRow (w : World) (ao : Option Addr) (m : Nat) (l : List Sib) : Prop := m = l.length ∧ SibRow w ao l
theorem SrcRow.next {w w' : World} {ao : Option Addr} {m : Nat} {l : List Sib} (h : SrcRow w ao m l) (hb : Below w.heap.size w w') : SrcRow w' ao m l := ⟨h.1, h.2.next hb⟩
section
variable {P : Program}
theorem run_append3 (w : World) (t ty e : TypeId) (i : TypeInfo) (z : Value) (bytes : Nat) (ht : P.underlying t = some (.slice e)) (hi : P.info? e = some i) (hz : i.zero = some z)
    (hsize : i.size = 4) (hby : i.bytes = bytes) (hzs : z.cells.size = 4)
    (v : Value) (n : Nat) (xs : List Value) (hown : w.ownsRow 0 e 4 v n xs)
    (ao : Option Addr) (m c : Nat) (l : List Sib) (hsrc : SrcRow w ao m l)
    (h63 : n + m ≤ maxLen) (hbytes : (n + m) * bytes ≤ 140737488355328) :
    ∃ v' w', (Builtin.append_ #[t, t] ty #[v, .slice ao m c]).run P w = .ok v' w' ∧ w'.ownsRow 0 e 4 v' (n + m) (xs ++ flat l) ∧ Gro w w' v v' := by
  obtain ⟨rfl, hrow⟩ := hsrc
  by_cases hl : l = []
  · subst hl
    have hsr : Src P i.size t (.slice ao 0 c) 0 [] w := by
      cases ao with
      | none => exact Src.ofNil w ht c
      | some ad => exact Src.ofSlice w ht ad 0 c [] (by simp) (fun j u h => by simp at h) (fun u h => by cases h)
    rcases hown.2 with ⟨rfl, rfl⟩ | ⟨g, cap, cur, rfl, _, _, hnc, _⟩
    · exact ⟨_, _, run_append_nothing w t t ty e i ht hi none 0 0 (Nat.le_refl _) _ hsr, by simpa [flat] using hown, Gro.refl _ _⟩
    · exact ⟨_, _, run_append_nothing w t t ty e i ht hi _ n cap hnc _ hsr, by simpa [flat] using hown, Gro.refl _ _⟩
  · rcases hrow with h | ⟨b, off, rfl, h2⟩
    · exact (hl h).elim
    · exact run_append2 (P := P) w t ty e i z 4 bytes ht hi hz hsize hby hzs (by decide) v n xs hown ⟨b, off, none⟩ l.length c (flat l) (flat_length l) (fun j u hu => by rw [addr_add]; exact flat_cells (l := l) (off := off) rfl h2 j u hu) (flat_one l) h63 hbytes
theorem wp_append3 {w : World} {o : Oper} {a : Act} {K : Act → World → Prop} {Q : Exit → Act → World → Prop} (s x : Operand) (t : TypeId)
    (ho : o.op = .call { callee := .builtin .append, args := #[s, x], argTypes := #[t, t] })
    (e : TypeId) (i : TypeInfo) (z : Value) (bytes : Nat) (ht : P.underlying t = some (.slice e)) (hi : P.info? e = some i) (hz : i.zero = some z)
    (hsize : i.size = 4) (hby : i.bytes = bytes) (hzs : z.cells.size = 4)
    (v : Value) (n : Nat) (xs : List Value) (hs : a.eval s = v) (hown : w.ownsRow 0 e 4 v n xs)
    (ao : Option Addr) (m c : Nat) (l : List Sib) (hx : a.eval x = .slice ao m c) (hsrc : SrcRow w ao m l)
    (h63 : n + m ≤ maxLen) (hbytes : (n + m) * bytes ≤ 140737488355328)
    (h : ∀ v' w', w'.ownsRow 0 e 4 v' (n + m) (xs ++ flat l) → Gro w w' v v' → K (a.put o.dst v') w') : o.wp P a w K Q := by
  obtain ⟨v', w', hr, h2, h3⟩ := run_append3 (P := P) w t o.type e i z bytes ht hi hz hsize hby hzs v n xs hown ao m c l hsrc h63 hbytes
  unfold Oper.wp execOp
  simp only [ho, resolve, invoke, builtin, Sem.run_bind, Sem.run_pure, Result.andThen_ok, List.map_toArray, List.map_cons, List.map_nil, hs, hx, hr]
  exact h v' w' h2 h3
end
theorem bel_next' {w W W' : World} (h : Hid (Below w.heap.size w W)) (hb : Below W.heap.size W W') : Hid (Below w.heap.size w W') := h.out.trans (hb.mono h.out.size)
theorem there_new {W : World} {t : TypeId} : There (W.alloc (.cells #[.slice none 0 0, .int .i64 0, .int .i64 0, .int .i64 0] t)) W.heap.size 4 := fun j hj => by
  have hj' : j = 0 ∨ j = 1 ∨ j = 2 ∨ j = 3 := by omega
  rcases hj' with rfl | rfl | rfl | rfl <;> exact ⟨by go_simp, by go_simp⟩
theorem below_set4 {w W : World} {g : Nat} {v0 v1 v2 v3 : Value} (h : Below w.heap.size w W) (hg : w.heap.size ≤ g) : Below w.heap.size w ((((W.setCell ⟨g, 0, none⟩ v0).setCell ⟨g, 1, none⟩ v1).setCell ⟨g, 2, none⟩ v2).setCell ⟨g, 3, none⟩ v3) :=
  (((h.setCell (by simpa using hg) _).setCell (by simpa using hg) _).setCell (by simpa using hg) _).setCell (by simpa using hg) _
theorem own_set4 {W : World} {e : TypeId} {g n : Nat} {v v0 v1 v2 v3 : Value} {xs : List Value} (h : W.ownsRow 0 e 4 v n xs) (hne : v.ownBlock ≠ some g) : ((((W.setCell ⟨g, 0, none⟩ v0).setCell ⟨g, 1, none⟩ v1).setCell ⟨g, 2, none⟩ v2).setCell ⟨g, 3, none⟩ v3).ownsRow 0 e 4 v n xs :=
  ownsRow_setCell_other (ownsRow_setCell_other (ownsRow_setCell_other (ownsRow_setCell_other h hne _) hne _) hne _) hne _
section
variable {P : Program}
theorem step_append3 {ops : Array Oper} {w : World} {o : Oper} {a : Act} {K : Act → World → Prop} {Q : Exit → Act → World → Prop} {E : Prop} (hgd : o.guard = none) (s x : Operand) (t : TypeId)
    (ho : o.op = .call { callee := .builtin .append, args := #[s, x], argTypes := #[t, t] })
    (e : TypeId) (i : TypeInfo) (z : Value) (bytes : Nat) (ht : P.underlying t = some (.slice e)) (hi : P.info? e = some i) (hz : i.zero = some z)
    (hsize : i.size = 4) (hby : i.bytes = bytes) (hzs : z.cells.size = 4)
    (v : Value) (n : Nat) (xs : List Value) (hs : a.eval s = v) (hown : w.ownsRow 0 e 4 v n xs)
    (ao : Option Addr) (m c : Nat) (l : List Sib) (hx : a.eval x = .slice ao m c) (hsrc : SrcRow w ao m l)
    (h63 : n + m ≤ maxLen) (hbytes : (n + m) * bytes ≤ 140737488355328)
    (h : ∀ v' w', w'.ownsRow 0 e 4 v' (n + m) (xs ++ flat l) → Gro w w' v v' → K (a.put o.dst v') w') : if Region.wanted o (yielded ops a.tmps) = true then Oper.wp P o a w K Q else E := by
  have hw : Region.wanted o (yielded ops a.tmps) = true := by simp [Region.wanted, hgd]
  rw [if_pos hw]
  exact wp_append3 s x t ho e i z bytes ht hi hz hsize hby hzs v n xs hs hown ao m c l hx hsrc h63 hbytes h
end
theorem rise_of : ∀ {l : List Sib}, (∀ i (h : i + 1 < l.length), Bef l[i] l[i + 1]) → Rise l
  | [], _ => by simp [Rise]
  | [s], _ => by simp [Rise]
  | s :: t :: l, h => by
    have h1 : Rise (t :: l) := rise_of (fun i hi => by have := h (i + 1) (by simpa using hi); simpa using this)
    have h0 := h 0 (by simp)
    refine List.pairwise_cons.2 ⟨fun u hu => ?_, h1⟩
    rcases List.mem_cons.1 hu with e | e
    · subst e; simpa using h0
    · exact Bef.trans (by simpa using h0) (h1.head u e)
theorem ok_rise {l : List Sib} {a b c : Int} (h : OkP l a b c) : Rise l := rise_of (fun i hi => dots_neg.1 (by have := (h.2.2 (i + 1) hi).2.2 (by omega); simpa using this))
theorem grown_cell {W w1 : World} {g : Nat} (hg : W.grownBy w1 (some g)) {b o : Nat} {v : Value} (h : W.cell? ⟨b, o, none⟩ = some v) (hne : b ≠ g) : w1.cell? ⟨b, o, none⟩ = some v := hg.cell h (fun e => hne (by cases e; rfl))
theorem grown_frozen {W w1 : World} {g : Nat} (hg : W.grownBy w1 (some g)) {b o : Nat} (h : W.frozen? ⟨b, o, none⟩ = false) (hlt : b < W.heap.size) (hne : b ≠ g) : w1.frozen? ⟨b, o, none⟩ = false := by
  rw [hg.frozen_far ⟨b, o, none⟩ hlt (fun e => hne (by cases e; rfl))]; exact h
theorem own_slc {w : World} {base e size n : Nat} {v : Value} {xs : List Value} (h : w.ownsRow base e size v n xs) : ∃ o k c, v = .slice o k c := by
  rcases h.2 with ⟨rfl, _⟩ | ⟨g, cap, cur, rfl, _⟩
  · exact ⟨_, _, _, rfl⟩
  · exact ⟨_, _, _, rfl⟩
set_option maxHeartbeats 2000000 in
theorem copyObj_any (cap : Nat) (ao : Option Addr) (l : List Sib) (a b c : Int) (w : World) (hm : l.length ≤ 1048576) (hr0 : SibRow w ao l) :
    Calls Tryz.prog 37 #[.agg #[.slice ao l.length cap, .int .i64 a, .int .i64 b, .int .i64 c]] w fun e w' => ∃ v, e = .returned (.agg #[v, .int .i64 a, .int .i64 b, .int .i64 c]) ∧ Gro w w' (.slice none 0 0) v ∧ w'.ownsRow 0 46 4 v l.length (flat l) := by
  have RA : Hid (SibRow ((w.alloc (.cells #[.slice ao l.length cap, .int .i64 a, .int .i64 b, .int .i64 c] 34)).alloc (.cells #[.slice none 0 0, .int .i64 0, .int .i64 0, .int .i64 0] 34)) ao l) := row_next (row_next hr0 (bel_alloc _ _)) (bel_alloc _ _)
  have C1 : Hid (Cells4 ((w.alloc (.cells #[.slice ao l.length cap, .int .i64 a, .int .i64 b, .int .i64 c] 34)).alloc (.cells #[.slice none 0 0, .int .i64 0, .int .i64 0, .int .i64 0] 34)) w.heap.size (.slice ao l.length cap) a b c) := by refine ⟨?_, ?_, ?_, ?_⟩ <;> go_simp
  have L1 : Hid (w.heap.size < ((w.alloc (.cells #[.slice ao l.length cap, .int .i64 a, .int .i64 b, .int .i64 c] 34)).alloc (.cells #[.slice none 0 0, .int .i64 0, .int .i64 0, .int .i64 0] 34)).heap.size) := by show _ < _; simp; omega
  have T1 : Hid (There ((w.alloc (.cells #[.slice ao l.length cap, .int .i64 a, .int .i64 b, .int .i64 c] 34)).alloc (.cells #[.slice none 0 0, .int .i64 0, .int .i64 0, .int .i64 0] 34)) (w.heap.size + 1) 4) := by
    have := there_new (W := w.alloc (.cells #[.slice ao l.length cap, .int .i64 a, .int .i64 b, .int .i64 c] 34)) (t := 34)
    show There _ _ _
    simpa using this
  have T0 : Hid (There ((w.alloc (.cells #[.slice ao l.length cap, .int .i64 a, .int .i64 b, .int .i64 c] 34)).alloc (.cells #[.slice none 0 0, .int .i64 0, .int .i64 0, .int .i64 0] 34)) w.heap.size 4) := by
    show There _ _ _
    intro j hj
    have hj' : j = 0 ∨ j = 1 ∨ j = 2 ∨ j = 3 := by omega
    rcases hj' with rfl | rfl | rfl | rfl <;> exact ⟨by go_simp, by go_simp⟩
  have L2 : Hid (w.heap.size + 1 < ((w.alloc (.cells #[.slice ao l.length cap, .int .i64 a, .int .i64 b, .int .i64 c] 34)).alloc (.cells #[.slice none 0 0, .int .i64 0, .int .i64 0, .int .i64 0] 34)).heap.size) := by show _ < _; simp
  have GW : Hid (Gro w ((w.alloc (.cells #[.slice ao l.length cap, .int .i64 a, .int .i64 b, .int .i64 c] 34)).alloc (.cells #[.slice none 0 0, .int .i64 0, .int .i64 0, .int .i64 0] 34)) (.slice none 0 0) (.slice none 0 0)) := (Gro.of_below (bel_alloc _ _)).trans (Gro.of_below (bel_alloc _ _))
  have SRC : Hid (SrcRow ((w.alloc (.cells #[.slice ao l.length cap, .int .i64 a, .int .i64 b, .int .i64 c] 34)).alloc (.cells #[.slice none 0 0, .int .i64 0, .int .i64 0, .int .i64 0] 34)) ao l.length l) := ⟨rfl, RA.out⟩
  have HM : Hid (l.length ≤ 1048576) := hm
  clear hr0 hm
  have h63 : l.length ≤ 1048576 := HM.out
  obtain ⟨i0, hi, hz0, hz1, hz2⟩ := info_parts info_sib
  have HI : Hid (Tryz.prog.info? 46 = some i0 ∧ i0.zero = some (.agg #[.int .i64 0, .int .i64 0, .int .i64 0, .bool false]) ∧ i0.size = 4 ∧ i0.bytes = 32) := ⟨hi, hz0, hz1, hz2⟩
  clear hi hz0 hz1 hz2
  have mixed : Tryz.prog.follows Departure.mixedOrders = true := by kernel_rfl
  go_enter Tryz.func37, Tryz.ntmps37
  go_upto_region 1 with fail
  generalize ((w.alloc (.cells #[.slice ao l.length cap, .int .i64 a, .int .i64 b, .int .i64 c] 34)).alloc (.cells #[.slice none 0 0, .int .i64 0, .int .i64 0, .int .i64 0] 34)) = W0 at *
  obtain ⟨c0, c1, c2, c3⟩ := C1.out
  clear C1 T0
  go_region_law_o (refine step_append3 rfl (.const (.slice none 0 0)) (.tmp 4) 30 rfl 46 i0 (.agg #[.int .i64 0, .int .i64 0, .int .i64 0, .bool false]) 32 Tryz.underlying30 HI.out.1 HI.out.2.1 HI.out.2.2.1 HI.out.2.2.2 rfl (.slice none 0 0) 0 [] (by simp [Act.eval, Act.put]) (World.ownsRow_nil _ 0 _ 4) ao l.length cap l (by simp [Act.eval, Act.put]) (SRC.out.next (bel_drew _)) (by unfold maxLen; omega) (by omega) ?_; intro v w2 ho hg; obtain ⟨vo, vn, vc, rfl⟩ := own_slc ho; have O2 : Hid (w2.ownsRow 0 46 4 (.slice vo vn vc) l.length (flat l)) := own_cast ho (by omega) (by simp); have G2 : Hid (Gro W0 w2 (.slice none 0 0) (.slice vo vn vc)) := (Gro.of_below (bel_drew _)).trans hg; have hTr := th_gro T1.out G2.out L2.out Gro.none_ne; obtain ⟨t0, T0⟩ := Option.isSome_iff_exists.1 (hTr 0 (by omega)).1; have Z0 := (hTr 0 (by omega)).2; obtain ⟨t1, T1⟩ := Option.isSome_iff_exists.1 (hTr 1 (by omega)).1; have Z1 := (hTr 1 (by omega)).2; obtain ⟨t2, T2⟩ := Option.isSome_iff_exists.1 (hTr 2 (by omega)).1; have Z2 := (hTr 2 (by omega)).2; obtain ⟨t3, T3⟩ := Option.isSome_iff_exists.1 (hTr 3 (by omega)).1; have Z3 := (hTr 3 (by omega)).2; clear hTr; have d1 := G2.out.cell c1 Gro.none_ne; have d2 := G2.out.cell c2 Gro.none_ne; have d3 := G2.out.cell c3 Gro.none_ne; clear ho hg)
  all_goals
    go_wp2
    refine bodyPost_ret (v := .agg #[.slice vo vn vc, .int .i64 a, .int .i64 b, .int .i64 c]) (by simp [results, Tryz.results37, go_sem, T0, T1, T2, T3, Z0, Z1, Z2, Z3]) rfl ⟨_, rfl, ?_, ?_⟩
    · exact Gro.set4 (GW.out.trans G2.out) (by omega)
    · have hne : (Value.slice vo vn vc).ownBlock ≠ some (w.heap.size + 1) := nb G2.out L2.out
      exact own_set4 O2.out hne
/-- Four cells that are written. -/
def set4 (W : World) (p off : Nat) (v : Value) (a b c : Int) : World := (((W.setCell ⟨p, off, none⟩ v).setCell ⟨p, off + 1, none⟩ (.int .i64 a)).setCell ⟨p, off + 2, none⟩ (.int .i64 b)).setCell ⟨p, off + 3, none⟩ (.int .i64 c)
theorem There.grown {W W' : World} {p n g : Nat} (h : There W p n) (hg : W.grownBy W' (some g)) (hp : p < W.heap.size) (hne : p ≠ g) : There W' p n := fun j hj => by
  obtain ⟨v, hv⟩ := Option.isSome_iff_exists.1 (h j hj).1
  exact ⟨by rw [grown_cell hg hv hne]; rfl, grown_frozen hg (h j hj).2 hp hne⟩
set_option maxHeartbeats 1000000 in
theorem lsame_any (cap cp : Nat) (ao bo : Option Addr) (l l2 : List Sib) (a b c x y z : Int) (r : Bool) (hres : Hid (r = true ↔ Same l l2 a b c x y z)) (w : World) (hm : (l.length : Int) ≤ 1048576) (hm2 : (l2.length : Int) ≤ 1048576) (hr0 : SibRow w ao l) (hs0 : SibRow w bo l2) :
    Calls Tryz.prog 11 #[.agg #[.slice ao l.length cap, .int .i64 a, .int .i64 b, .int .i64 c], .agg #[.slice bo l2.length cp, .int .i64 x, .int .i64 y, .int .i64 z]] w fun e w' => e = .returned (.bool r) ∧ Below w.heap.size w w' := by
  have hr : Hid (SibRow w ao l) := hr0
  have hs : Hid (SibRow w bo l2) := hs0
  clear hr0 hs0
  have ev := eqv a b c x y z
  cases heb : (a == x && (b == y && c == z))
  · have HR : Hid (r = false) := bool_no hres (fun h => by rw [h.1] at heb; cases heb)
    rw [heb] at ev
    clear heb
    go_enter Tryz.func11, Tryz.ntmps11
    go_wp2
    go_ret
    refine ⟨ret_bool HR.out.symm, ?_⟩
    repeat (first | exact Below.refl _ _ | refine Below.drew ?_ | refine below_drewN ?_ _ | refine Below.alloc ?_ (by first | (simp; done) | (simp; omega)) _ | refine Below.setCell ?_ (by first | (simp; done) | (simp; omega)) _)
  rw [heb] at ev
  have HE : Hid ((a == x && (b == y && c == z)) = true) := heb
  clear heb
  by_cases hll : l.length = l2.length
  case neg =>
    have HR : Hid (r = false) := bool_no hres (fun h => hll h.2.1)
    have hne : ((l.length : Int) == (l2.length : Int)) = false := beq_eq_false_iff_ne.2 (by omega)
    clear hll
    go_enter Tryz.func11, Tryz.ntmps11
    go_wp2
    go_ret
    refine ⟨ret_bool HR.out.symm, ?_⟩
    repeat (first | exact Below.refl _ _ | refine Below.drew ?_ | refine below_drewN ?_ _ | refine Below.alloc ?_ (by first | (simp; done) | (simp; omega)) _ | refine Below.setCell ?_ (by first | (simp; done) | (simp; omega)) _)
  have heq : ((l.length : Int) != (l2.length : Int)) = false := by simp; omega
  have HL : Hid (l.length = l2.length) := hll
  clear hll
  go_enter Tryz.func11, Tryz.ntmps11
  go_wp2
  clear ev
  go_loopw [5] (fun s5 wr => ∃ k : Nat, k ≤ l.length ∧ s5 = .int .i64 k ∧ Below w.heap.size w wr ∧ (∀ i (h : i < l.length) (h2 : i < l2.length), i < k → sibB l[i] l2[i] = true) ∧ wr.cell? ⟨w.heap.size, 0, none⟩ = some (.slice ao l.length cap) ∧ wr.cell? ⟨w.heap.size + 1, 0, none⟩ = some (.slice bo l2.length cp)) (fun s5 _ => l.length - (intOf s5).toNat)
  case atStart => exact ⟨0, by omega, rfl, (((Below.refl _ _).alloc (Nat.le_refl _) _).alloc (by simp) _), fun i h h2 h3 => by omega, by go_simp, by go_simp⟩
  case round =>
    obtain ⟨k, hk, rfl, hB0, hA0, b0, b1⟩ := hrel
    have hB : Hid (Below w.heap.size w wr) := hB0
    have hA : Hid (∀ i (h : i < l.length) (h2 : i < l2.length), i < k → sibB l[i] l2[i] = true) := hA0
    clear hB0 hA0
    by_cases hkl : k < l.length
    · have hkl2 : k < l2.length := by have := HL.out; omega
      have hkl' : (k : Int) < (l.length : Int) := by omega
      have hkl3 : (k : Int) < (l2.length : Int) := by omega
      rcases hr.out with h' | ⟨p, off, rfl, h2⟩
      · rw [h'] at hkl; simp at hkl
      rcases hs.out with h' | ⟨q, oft, rfl, h3⟩
      · rw [h'] at hkl2; simp at hkl2
      obtain ⟨x0, x1, x2, x3⟩ := (h2 k hkl).next hB.out (cell_lt (x := ⟨p, off + k * 4, none⟩) (h2 k hkl).1)
      obtain ⟨y0, y1, y2, y3⟩ := (h3 k hkl2).next hB.out (cell_lt (x := ⟨q, oft + k * 4, none⟩) (h3 k hkl2).1)
      have es := eqs l[k] l2[k]
      have k0 : (0 : Int) ≤ (k : Int) := by omega
      clear h2 h3
      cases hsb : sibB l[k] l2[k]
      · have HR : Hid (r = false) := bool_no hres (fun h => by rw [h.2.2 k hkl hkl2] at hsb; cases hsb)
        rw [hsb] at es
        clear hsb
        go_wp2
        go_quiet (fail)
        go_wp2
        go_ret
        exact ⟨ret_bool HR.out.symm, below_drewN hB.out _⟩
      · rw [hsb] at es
        have HS : Hid (sibB l[k] l2[k] = true) := hsb
        clear hsb
        go_wp2
        go_quiet (fail)
        go_wp2
        have hA1 : ∀ i (h : i < l.length) (h2 : i < l2.length), i < k + 1 → sibB l[i] l2[i] = true := fun i h h2 h3 => by
          by_cases e : i = k
          · subst e; exact HS.out
          · exact hA.out i h h2 (by omega)
        go_roundw
        case rel => first | exact ⟨k + 1, by omega, by go_num, below_drewN hB.out _, hA1, b0, b1⟩ | ((repeat apply Exists.intro); exact ⟨⟨k + 1, by omega, by go_num, below_drewN hB.out _, hA1, b0, b1⟩, rfl⟩)
        case measure => simp [intOf]; omega
    · have hkl' : ¬ (k : Int) < (l.length : Int) := by omega
      have HR : Hid (r = true) := bool_yes hres ⟨HE.out, HL.out, fun i h h2 => hA.out i h h2 (by omega)⟩
      go_wp2
      go_ret
      exact ⟨ret_bool HR.out.symm, hB.out⟩
/-- The boxes of a write: the object's, the context's, the event's, the result's, the sibling's. -/
def BX (g : Nat) (W : World) (v : Value) (a b c x y z sp sn sv : Int) (sd : Bool) : Prop := Cells4 W g v a b c ∧ Cells3 W (g + 1) x y z ∧ Cells2 W (g + 1 + 1) sp sn ∧ There W (g + 1 + 1 + 1) 4 ∧ (W.cell? ⟨g + 1 + 1 + 1 + 1, 0, none⟩ = some (.int .i64 sp) ∧ W.cell? ⟨g + 1 + 1 + 1 + 1, 1, none⟩ = some (.int .i64 sn) ∧ W.cell? ⟨g + 1 + 1 + 1 + 1, 2, none⟩ = some (.int .i64 sv) ∧ W.cell? ⟨g + 1 + 1 + 1 + 1, 3, none⟩ = some (.bool sd)) ∧ g + 1 + 1 + 1 + 1 < W.heap.size
theorem BX.next {W W' : World} {g : Nat} {v : Value} {a b c x y z sp sn sv : Int} {sd : Bool} (h : BX g W v a b c x y z sp sn sv sd) (hb : Below W.heap.size W W') : BX g W' v a b c x y z sp sn sv sd := by
  obtain ⟨h1, h2, h3, h4, ⟨h5, h6, h7, h8⟩, hz⟩ := h
  exact ⟨c4_next h1 hb (Nat.lt_trans (by omega) hz), c3_next h2 hb (Nat.lt_trans (by omega) hz), c2_next h3 hb (Nat.lt_trans (by omega) hz), h4.next hb (Nat.lt_trans (by omega) hz), ⟨cell_next hb h5 hz, cell_next hb h6 hz, cell_next hb h7 hz, cell_next hb h8 hz⟩, Nat.lt_of_lt_of_le hz hb.size⟩
theorem BX.new {w : World} {v : Value} {a b c x y z sp sn sv : Int} {sd : Bool} {t t1 t2 t3 : TypeId} : BX w.heap.size (((((w.alloc (.cells #[v, .int .i64 a, .int .i64 b, .int .i64 c] t)).alloc (.cells #[.int .i64 x, .int .i64 y, .int .i64 z] t1)).alloc (.cells #[.int .i64 sp, .int .i64 sn] t2)).alloc (.cells #[.slice none 0 0, .int .i64 0, .int .i64 0, .int .i64 0] t)).alloc (.cells #[.int .i64 sp, .int .i64 sn, .int .i64 sv, .bool sd] t3)) v a b c x y z sp sn sv sd := by
  refine ⟨⟨by go_simp, by go_simp, by go_simp, by go_simp⟩, ⟨by go_simp, by go_simp, by go_simp⟩, ⟨by go_simp, by go_simp⟩, fun j hj => ?_, ⟨by go_simp, by go_simp, by go_simp, by go_simp⟩, by simp⟩
  have hj' : j = 0 ∨ j = 1 ∨ j = 2 ∨ j = 3 := by omega
  rcases hj' with rfl | rfl | rfl | rfl <;> exact ⟨by go_simp, by go_simp⟩
/-- What a write may be asked for. -/
def WGood (l : List Sib) (a b c x y z : Int) (s : Sib) : Prop := OkP l a b c ∧ vvB x y z = true ∧ sibOK s.p s.n s.v s.d = true
def WKnown (a b c x y z : Int) (s : Sib) : Prop := s.n ≤ comp a b c s.p ∨ s.n ≤ comp x y z s.p
/-- What a write answers. -/
structure WRel (l : List Sib) (a b c x y z : Int) (s : Sib) (J : List Sib) (p q r code : Int) : Prop where
  bad : ¬ WGood l a b c x y z s → J = [] ∧ p = 0 ∧ q = 0 ∧ r = 0 ∧ code = 1
  known : WGood l a b c x y z s → WKnown a b c x y z s → J = l ∧ p = a ∧ q = b ∧ r = c ∧ code = 17
  full : WGood l a b c x y z s → ¬ WKnown a b c x y z s → l.length = 100 → J = l ∧ p = a ∧ q = b ∧ r = c ∧ code = 6
  done : WGood l a b c x y z s → ¬ WKnown a b c x y z s → ¬ l.length = 100 → J = pt s (fil x y z l) ∧ p = (if s.p = 0 then s.n else max a x) ∧ q = (if s.p = 1 then s.n else max b y) ∧ r = (if s.p = 2 then s.n else max c z) ∧ code = 0
theorem okp_nodes {l : List Sib} {a b c : Int} (h : OkP l a b c) : ∀ i (h : i < l.length), 0 ≤ l[i].p ∧ l[i].p < 3 := fun i hi => sib_node (h.2.2 i hi).1
end W
end Go.Proofs.YtkdbcmkmcjaenaaGreatDoor

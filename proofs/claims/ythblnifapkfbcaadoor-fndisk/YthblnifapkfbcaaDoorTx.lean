/- Rows of texts, as the laws hand them over. -/
import Derived.Test.YthblnifapkfbcaaDoorRows
import Derived.WalkKit
import Derived.WalkSpells
import Derived.WalkLawsBesides
import Derived.Deep.QuietTactic
import Derived.BigQuiet
import Derived.Deep.RegionHeld3
import Derived.LoopN
import Derived.OwnWalk
import Derived.Laws.OwnMore
namespace Go.Proofs.YthblnifapkfbcaaDoor
open Go.RowKit
set_option linter.unusedSimpArgs false
set_option linter.unusedVariables false

theorem ret_bool {a b : Bool} (h : a = b) : Ending.returned (.bool a) = .returned (.bool b) := by rw [h]
theorem ret_int {k : IntKind} {a b : Int} (h : a = b) : Ending.returned (.int k a) = .returned (.int k b) := by rw [h]
theorem ret_ints {a b c d : Int} (h : a = b) (k : c = d) : Ending.returned (.tuple #[.int .i64 a, .int .i64 c]) = .returned (.tuple #[.int .i64 b, .int .i64 d]) := by rw [h, k]
theorem ret_bint {a b : Bool} {c d : Int} (h : a = b) (k : c = d) : Ending.returned (.tuple #[.bool a, .int .i64 c]) = .returned (.tuple #[.bool b, .int .i64 d]) := by rw [h, k]
theorem ret_vint {a b c a' b' c' : Int} {r r' : Int} (h : a = a') (k : b = b') (l : c = c') (m : r = r') : Ending.returned (.tuple #[.agg #[.int .i64 a, .int .i64 b, .int .i64 c], .int .i64 r]) = .returned (.tuple #[.agg #[.int .i64 a', .int .i64 b', .int .i64 c'], .int .i64 r']) := by rw [h, k, l, m]
theorem ret_v {a b c a' b' c' : Int} (h : a = a') (k : b = b') (l : c = c') : Ending.returned (.agg #[.int .i64 a, .int .i64 b, .int .i64 c]) = .returned (.agg #[.int .i64 a', .int .i64 b', .int .i64 c']) := by rw [h, k, l]
theorem bcell {W w1 : World} (hb : Below W.heap.size W w1) : (∀ b o, b < W.heap.size → w1.cell? ⟨b, o, none⟩ = W.cell? ⟨b, o, none⟩) ∧ (∀ b o, b < W.heap.size → w1.frozen? ⟨b, o, none⟩ = W.frozen? ⟨b, o, none⟩) :=
  ⟨fun b o h => hb.cell (p := ⟨b, o, none⟩) h, fun b o h => hb.frozen (p := ⟨b, o, none⟩) h⟩
theorem cell_next {W w1 : World} (hb : Below W.heap.size W w1) {b o : Nat} {v : Value} (h : W.cell? ⟨b, o, none⟩ = some v) (hs : b < W.heap.size) : w1.cell? ⟨b, o, none⟩ = some v := by
  rw [hb.cell (p := ⟨b, o, none⟩) hs]; exact h
theorem cell_set {W : World} {b o t j : Nat} {v u : Value} (h : W.cell? ⟨b, o, none⟩ = some v) (hne : b ≠ t) : (W.setCell ⟨t, j, none⟩ u).cell? ⟨b, o, none⟩ = some v := by
  rw [World.cell?_of_block (w := W) (Below.heap_setCell W ⟨t, j, none⟩ u b (by simpa using hne))]; exact h
theorem frozen_next {W w1 : World} (hb : Below W.heap.size W w1) {b o : Nat} (h : W.frozen? ⟨b, o, none⟩ = false) (hs : b < W.heap.size) : w1.frozen? ⟨b, o, none⟩ = false := by
  rw [hb.frozen (p := ⟨b, o, none⟩) hs]; exact h

def V (ss : List ByteArray) : List Value := ss.map Value.string
theorem V_len (ss : List ByteArray) : (V ss).length = ss.length := by simp [V]
theorem V_app (a b : List ByteArray) : V (a ++ b) = V a ++ V b := by simp [V]
theorem V_one (ss : List ByteArray) : ∀ v ∈ V ss, v.oneCell' = true := fun v hv => by
  simp [V] at hv
  obtain ⟨s, _, rfl⟩ := hv
  rfl
theorem V_at (ss : List ByteArray) (i : Nat) (h : i < ss.length) : (V ss)[i]? = some (.string ss[i]) := by simp [V, h]
/-- A row of texts in memory. -/
def TRow (W : World) (ao : Option Addr) (ss : List ByteArray) : Prop := ss = [] ∨ ∃ b off, ao = some ⟨b, off, none⟩ ∧ ∀ i (h : i < ss.length), W.cell? ⟨b, off + i, none⟩ = some (.string ss[i])
theorem cell_lt' {W : World} {b o : Nat} {v : Value} (h : W.cell? ⟨b, o, none⟩ = some v) : b < W.heap.size := by
  rcases Nat.lt_or_ge b W.heap.size with q | q
  · exact q
  · simp [World.cell?, Array.getElem?_eq_none q] at h
theorem TRow.next {W W' : World} {ao : Option Addr} {ss : List ByteArray} (h : TRow W ao ss) (hb : Below W.heap.size W W') : TRow W' ao ss := by
  rcases h with h | ⟨b, off, rfl, h2⟩
  · exact .inl h
  · exact .inr ⟨b, off, rfl, fun i hi => cell_next hb (h2 i hi) (cell_lt' (h2 i hi))⟩
theorem TRow.old {w W : World} {ao : Option Addr} {ss : List ByteArray} (h : TRow w ao ss) (hb : Below w.heap.size w W) : TRow W ao ss := h.next hb
/-- A value that is a row of texts. -/
def RowV (W : World) (v : Value) (ss : List ByteArray) : Prop := ∃ ao cap, v = .slice ao ss.length cap ∧ ss.length ≤ cap ∧ TRow W ao ss
theorem RowV.next {W W' : World} {v : Value} {ss : List ByteArray} (h : RowV W v ss) (hb : Below W.heap.size W W') : RowV W' v ss := by
  obtain ⟨ao, cap, h1, h2, h3⟩ := h
  exact ⟨ao, cap, h1, h2, h3.next hb⟩
theorem own_trow {W : World} {e : TypeId} {ao : Option Addr} {cap : Nat} {ss : List ByteArray} (h : W.ownsRow 0 e 1 (.slice ao ss.length cap) ss.length (V ss)) : TRow W ao ss := by
  rcases h.2 with ⟨h', hn⟩ | ⟨g, cap', cur, h', _⟩
  · exact .inl (List.length_eq_zero_iff.1 hn)
  · cases h'
    refine .inr ⟨g, 0, rfl, fun i hi => ?_⟩
    rw [Nat.zero_add, h.cellAt i (by omega)]
    exact V_at ss i hi
theorem own_rowV {W : World} {e : TypeId} {v : Value} {ss : List ByteArray} (h : W.ownsRow 0 e 1 v ss.length (V ss)) : RowV W v ss := by
  have hq := h
  rcases h.2 with ⟨rfl, hn⟩ | ⟨g, cap', cur, rfl, _, _, hc, _⟩
  · exact ⟨none, 0, by rw [hn], by omega, .inl (List.length_eq_zero_iff.1 hn)⟩
  · exact ⟨_, _, rfl, hc, own_trow hq⟩
theorem own_next {w w' : World} {base e size n : Nat} {v : Value} {xs : List Value} (h : w.ownsRow base e size v n xs) (hb : Below w.heap.size w w') : w'.ownsRow base e size v n xs := by
  refine ⟨h.1, ?_⟩
  rcases h.2 with h' | ⟨g, cap, cur, rfl, hg, hh, r⟩
  · exact .inl h'
  · refine .inr ⟨g, cap, cur, rfl, hg, ?_, r⟩
    rw [hb.block g (by
      rcases Nat.lt_or_ge g w.heap.size with h' | h'
      · exact h'
      · rw [Array.getElem?_eq_none h'] at hh; cases hh)]
    exact hh
theorem own_base {w : World} {base base' e size n : Nat} {v : Value} {xs : List Value} (h : w.ownsRow base e size v n xs) (hk : ∀ k, v.ownBlock = some k → base' ≤ k) : w.ownsRow base' e size v n xs := by
  refine ⟨h.1, ?_⟩
  rcases h.2 with h' | ⟨g, cap, cur, rfl, hb, r⟩
  · exact .inl h'
  · exact .inr ⟨g, cap, cur, rfl, hk g rfl, r⟩
theorem bel_alloc (W : World) (o : Obj) : Below W.heap.size W (W.alloc o) := (Below.refl _ _).alloc (Nat.le_refl _) _
theorem bel_drew (W : World) : Below W.heap.size W W.drew := (Below.refl _ _).drew
theorem bel_next {w W W' : World} (h : Hid (Below w.heap.size w W)) (hb : Below W.heap.size W W') : Hid (Below w.heap.size w W') := h.out.trans (hb.mono h.out.size)
theorem lt_next {W W' : World} {g n : Nat} (hl : Hid (g < W.heap.size)) (hb : Below n W W') : Hid (g < W'.heap.size) := Nat.lt_of_lt_of_le hl.out hb.size
theorem lt_new {W : World} {o : Obj} : Hid (W.heap.size < (W.alloc o).heap.size) := by show _ < _; simp
theorem info_parts {i : Option TypeInfo} {z : Option Value} {a b : Nat} (h : i.map (fun i => (i.zero, i.size, i.bytes)) = some (z, a, b)) : ∃ i0, i = some i0 ∧ i0.zero = z ∧ i0.size = a ∧ i0.bytes = b := by
  cases i with
  | none => cases h
  | some i0 => simp at h; exact ⟨i0, rfl, h.1, h.2.1, h.2.2⟩
/-- How many bytes and texts there are. -/
def tot : List ByteArray → Nat
  | [] => 0
  | s :: ss => s.size + tot ss
theorem tot_app (a b : List ByteArray) : tot (a ++ b) = tot a + tot b := by
  induction a with
  | nil => simp [tot]
  | cons s a ih => simp [tot, ih]; omega
theorem tot_take_succ (ss : List ByteArray) (i : Nat) (h : i < ss.length) : tot (ss.take (i + 1)) = tot (ss.take i) + ss[i].size := by
  rw [List.take_succ_eq_append_getElem h, tot_app]; simp [tot]
theorem tot_take_le (ss : List ByteArray) (i : Nat) : tot (ss.take i) ≤ tot ss := by
  conv => rhs; rw [← List.take_append_drop i ss, tot_app]
  omega
theorem tot_mem (ss : List ByteArray) (s : ByteArray) (h : s ∈ ss) : s.size ≤ tot ss := by
  induction ss with
  | nil => cases h
  | cons x ss ih =>
    rcases List.mem_cons.1 h with h | h
    · subst h; simp [tot]
    · have := ih h; simp [tot]; omega
def szR (ss : List ByteArray) (left : Int) : Int := if (ss.length : Int) + (tot ss : Int) ≤ left then left - ss.length - tot ss else -1

theorem info_str : (Tryd.prog.info? 9).map (fun i => (i.zero, i.size, i.bytes)) = some (some (.string ⟨#[]⟩), 1, 16) := by kernel_rfl
end Go.Proofs.YthblnifapkfbcaaDoor

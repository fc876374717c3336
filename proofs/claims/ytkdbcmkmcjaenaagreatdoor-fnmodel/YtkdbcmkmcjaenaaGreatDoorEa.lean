/- Events, lists of them in memory; what the laws make of them: sizes, copies. -/
import Derived.Test.YtkdbcmkmcjaenaaGreatDoorRows
import Derived.WalkKit
import Derived.WalkSpells
import Derived.WalkLawsBesides
import Derived.Deep.QuietTactic
import Derived.BigQuiet
import Derived.Deep.RegionHeld3
import Derived.Test.YtkdbcmkmcjaenaaGreatDoorGk
import Derived.LoopN
import Derived.OwnWalk
import Derived.Laws.StructEq
namespace Go.Proofs.YtkdbcmkmcjaenaaGreatDoor
open Go.RowKit
set_option linter.unusedSimpArgs false
set_option linter.unusedVariables false

/-- An event: its dot, its key, its value, whether it is dead, and what its writer knew. -/
structure Ev where
  p : Int
  n : Int
  key : ByteArray
  v : Int
  dead : Bool
  a : Int
  b : Int
  c : Int
def flatE : List Ev → List Value
  | [] => []
  | m :: ms => .int .i64 m.p :: .int .i64 m.n :: .string m.key :: .int .i64 m.v :: .bool m.dead :: .int .i64 m.a :: .int .i64 m.b :: .int .i64 m.c :: flatE ms
theorem flatE_len (l : List Ev) : (flatE l).length = l.length * 8 := by
  induction l with
  | nil => rfl
  | cons s l ih => simp [flatE, ih]; omega
theorem flatE_at : ∀ (l : List Ev) (i : Nat) (h : i < l.length), (flatE l)[i * 8]? = some (.int .i64 l[i].p) ∧ (flatE l)[i * 8 + 1]? = some (.int .i64 l[i].n) ∧ (flatE l)[i * 8 + 2]? = some (.string l[i].key) ∧ (flatE l)[i * 8 + 3]? = some (.int .i64 l[i].v) ∧ (flatE l)[i * 8 + 4]? = some (.bool l[i].dead) ∧ (flatE l)[i * 8 + 5]? = some (.int .i64 l[i].a) ∧ (flatE l)[i * 8 + 6]? = some (.int .i64 l[i].b) ∧ (flatE l)[i * 8 + 7]? = some (.int .i64 l[i].c)
  | m :: l, 0, _ => by simp [flatE]
  | m :: l, i + 1, h => by
    have ih := flatE_at l i (by simpa using h)
    have e : ∀ k, (flatE (m :: l))[(i + 1) * 8 + k]? = (flatE l)[i * 8 + k]? := fun k => by
      rw [show (i + 1) * 8 + k = (i * 8 + k) + 8 by omega]
      rfl
    have e0 := e 0
    simp only [Nat.add_zero] at e0
    rw [e0, e 1, e 2, e 3, e 4, e 5, e 6, e 7]
    simpa using ih
theorem flatE_nil {l : List Ev} (h : flatE l = []) : l = [] := by
  cases l with
  | nil => rfl
  | cons s l => simp [flatE] at h
/-- The eight cells of an event. -/
def EAt (w : World) (b o : Nat) (m : Ev) : Prop := w.cell? ⟨b, o, none⟩ = some (.int .i64 m.p) ∧ w.cell? ⟨b, o + 1, none⟩ = some (.int .i64 m.n) ∧ w.cell? ⟨b, o + 2, none⟩ = some (.string m.key) ∧ w.cell? ⟨b, o + 3, none⟩ = some (.int .i64 m.v) ∧ w.cell? ⟨b, o + 4, none⟩ = some (.bool m.dead) ∧ w.cell? ⟨b, o + 5, none⟩ = some (.int .i64 m.a) ∧ w.cell? ⟨b, o + 6, none⟩ = some (.int .i64 m.b) ∧ w.cell? ⟨b, o + 7, none⟩ = some (.int .i64 m.c)
theorem EAt.next {W w1 : World} {b o : Nat} {x : Ev} (hb : Below W.heap.size W w1) (hg : b < W.heap.size) (h : EAt W b o x) : EAt w1 b o x := ⟨cell_next hb h.1 hg, cell_next hb h.2.1 hg, cell_next hb h.2.2.1 hg, cell_next hb h.2.2.2.1 hg, cell_next hb h.2.2.2.2.1 hg, cell_next hb h.2.2.2.2.2.1 hg, cell_next hb h.2.2.2.2.2.2.1 hg, cell_next hb h.2.2.2.2.2.2.2 hg⟩
theorem GRow.e {lo : Nat} {w : World} {p : Option Addr} {ms : List Ev} (h : GRow lo w p (flatE ms)) : ms = [] ∨ ∃ b off, p = some ⟨b, off, none⟩ ∧ lo ≤ b ∧ ∀ i (h : i < ms.length), EAt w b (off + i * 8) ms[i] := by
  rcases h with h | ⟨b, off, h1, h2, h3⟩
  · exact .inl (flatE_nil h)
  · refine .inr ⟨b, off, h1, h2, fun i hi => ?_⟩
    obtain ⟨f0, f1, f2, f3, f4, f5, f6, f7⟩ := flatE_at ms i hi
    exact ⟨GRow.at (lo := lo) h3 f0, by rw [Nat.add_assoc]; exact GRow.at (lo := lo) h3 f1, by rw [Nat.add_assoc]; exact GRow.at (lo := lo) h3 f2, by rw [Nat.add_assoc]; exact GRow.at (lo := lo) h3 f3, by rw [Nat.add_assoc]; exact GRow.at (lo := lo) h3 f4, by rw [Nat.add_assoc]; exact GRow.at (lo := lo) h3 f5, by rw [Nat.add_assoc]; exact GRow.at (lo := lo) h3 f6, by rw [Nat.add_assoc]; exact GRow.at (lo := lo) h3 f7⟩
theorem e_row {w : World} {b : Nat} : ∀ (ms : List Ev) (off : Nat), (∀ i (h : i < ms.length), EAt w b (off + i * 8) ms[i]) → ∀ j (h : j < (flatE ms).length), w.cell? ⟨b, off + j, none⟩ = some (flatE ms)[j]
  | [], off, _, j, h => by simp [flatE] at h
  | m :: ms, off, hc, j, h => by
    obtain ⟨c0, c1, c2, c3, c4, c5, c6, c7⟩ := hc 0 (by simp)
    simp only [Nat.zero_mul, Nat.add_zero, List.getElem_cons_zero] at c0 c1 c2 c3 c4 c5 c6 c7
    have ih := e_row (w := w) (b := b) ms (off + 8) (fun i hi => by
      have := hc (i + 1) (by simpa using hi)
      rw [show off + (i + 1) * 8 = off + 8 + i * 8 by omega] at this
      simpa using this)
    match j, h with
    | 0, _ => simpa [flatE] using c0
    | 1, _ => simpa [flatE] using c1
    | 2, _ => simpa [flatE] using c2
    | 3, _ => simpa [flatE] using c3
    | 4, _ => simpa [flatE] using c4
    | 5, _ => simpa [flatE] using c5
    | 6, _ => simpa [flatE] using c6
    | 7, _ => simpa [flatE] using c7
    | j + 8, h =>
      have := ih j (by simpa [flatE] using h)
      rw [show off + (j + 8) = off + 8 + j by omega]
      simpa [flatE] using this
/-- A list of events in a block of its own, from lo on, that may be written. -/
structure EW (lo : Nat) (w : World) (g n : Nat) (l : List Ev) : Prop where
  ge : lo ≤ g
  up : g < w.heap.size
  wr : There w g (n * 8)
  le : l.length ≤ n
  is : ∀ i (h : i < l.length), EAt w g (i * 8) l[i]
theorem EW.next {lo : Nat} {W W' : World} {g n : Nat} {l : List Ev} (h : EW lo W g n l) (hb : Below W.heap.size W W') : EW lo W' g n l := ⟨h.ge, Nat.lt_of_lt_of_le h.up hb.size, h.wr.next hb h.up, h.le, fun i hi => (h.is i hi).next hb h.up⟩
theorem EW.weak {lo lo' : Nat} {W : World} {g n : Nat} {l : List Ev} (h : EW lo W g n l) (hl : lo' ≤ lo) : EW lo' W g n l := ⟨Nat.le_trans hl h.ge, h.up, h.wr, h.le, h.is⟩
theorem EW.row {lo : Nat} {W : World} {g n : Nat} {l : List Ev} (h : EW lo W g n l) : GRow lo W (some ⟨g, 0, none⟩) (flatE l) := .inr ⟨g, 0, rfl, h.ge, e_row l 0 (fun i hi => by simpa using h.is i hi)⟩
theorem There.put8 {W : World} {g n k : Nat} {x : Ev} (h : There W g n) (hk : k + 7 < n) : EAt ((((((((W.setCell ⟨g, k, none⟩ (.int .i64 x.p)).setCell ⟨g, k + 1, none⟩ (.int .i64 x.n)).setCell ⟨g, k + 2, none⟩ (.string x.key)).setCell ⟨g, k + 3, none⟩ (.int .i64 x.v)).setCell ⟨g, k + 4, none⟩ (.bool x.dead)).setCell ⟨g, k + 5, none⟩ (.int .i64 x.a)).setCell ⟨g, k + 6, none⟩ (.int .i64 x.b)).setCell ⟨g, k + 7, none⟩ (.int .i64 x.c)) g k x := by
  refine ⟨?_, ?_, ?_, ?_, ?_, ?_, ?_, ?_⟩
  · rw [cell_off (by omega), cell_off (by omega), cell_off (by omega), cell_off (by omega), cell_off (by omega), cell_off (by omega), cell_off (by omega)]; exact cell_here (h (k) (by omega)).1
  · rw [cell_off (by omega), cell_off (by omega), cell_off (by omega), cell_off (by omega), cell_off (by omega), cell_off (by omega)]; exact cell_here (h.set (k + 1) (by omega)).1
  · rw [cell_off (by omega), cell_off (by omega), cell_off (by omega), cell_off (by omega), cell_off (by omega)]; exact cell_here (h.set.set (k + 2) (by omega)).1
  · rw [cell_off (by omega), cell_off (by omega), cell_off (by omega), cell_off (by omega)]; exact cell_here (h.set.set.set (k + 3) (by omega)).1
  · rw [cell_off (by omega), cell_off (by omega), cell_off (by omega)]; exact cell_here (h.set.set.set.set (k + 4) (by omega)).1
  · rw [cell_off (by omega), cell_off (by omega)]; exact cell_here (h.set.set.set.set.set (k + 5) (by omega)).1
  · rw [cell_off (by omega)]; exact cell_here (h.set.set.set.set.set.set (k + 6) (by omega)).1
  · exact cell_here (h.set.set.set.set.set.set.set (k + 7) (by omega)).1
theorem EAt.kept {W : World} {g k o : Nat} {u0 u1 u2 u3 u4 u5 u6 u7 : Value} {x : Ev} (h : EAt W g o x) (hne : o + 7 < k ∨ k + 7 < o) : EAt ((((((((W.setCell ⟨g, k, none⟩ (u0)).setCell ⟨g, k + 1, none⟩ (u1)).setCell ⟨g, k + 2, none⟩ (u2)).setCell ⟨g, k + 3, none⟩ (u3)).setCell ⟨g, k + 4, none⟩ (u4)).setCell ⟨g, k + 5, none⟩ (u5)).setCell ⟨g, k + 6, none⟩ (u6)).setCell ⟨g, k + 7, none⟩ (u7)) g o x := by
  obtain ⟨c0, c1, c2, c3, c4, c5, c6, c7⟩ := h
  refine ⟨?_, ?_, ?_, ?_, ?_, ?_, ?_, ?_⟩
  · rw [cell_off (by omega), cell_off (by omega), cell_off (by omega), cell_off (by omega), cell_off (by omega), cell_off (by omega), cell_off (by omega), cell_off (by omega)]; exact c0
  · rw [cell_off (by omega), cell_off (by omega), cell_off (by omega), cell_off (by omega), cell_off (by omega), cell_off (by omega), cell_off (by omega), cell_off (by omega)]; exact c1
  · rw [cell_off (by omega), cell_off (by omega), cell_off (by omega), cell_off (by omega), cell_off (by omega), cell_off (by omega), cell_off (by omega), cell_off (by omega)]; exact c2
  · rw [cell_off (by omega), cell_off (by omega), cell_off (by omega), cell_off (by omega), cell_off (by omega), cell_off (by omega), cell_off (by omega), cell_off (by omega)]; exact c3
  · rw [cell_off (by omega), cell_off (by omega), cell_off (by omega), cell_off (by omega), cell_off (by omega), cell_off (by omega), cell_off (by omega), cell_off (by omega)]; exact c4
  · rw [cell_off (by omega), cell_off (by omega), cell_off (by omega), cell_off (by omega), cell_off (by omega), cell_off (by omega), cell_off (by omega), cell_off (by omega)]; exact c5
  · rw [cell_off (by omega), cell_off (by omega), cell_off (by omega), cell_off (by omega), cell_off (by omega), cell_off (by omega), cell_off (by omega), cell_off (by omega)]; exact c6
  · rw [cell_off (by omega), cell_off (by omega), cell_off (by omega), cell_off (by omega), cell_off (by omega), cell_off (by omega), cell_off (by omega), cell_off (by omega)]; exact c7
theorem made_thereN {w' : World} {base e n sz : Nat} {g : Nat} {xs : List Value} (h : w'.ownsRow base e sz (.slice (some ⟨g, 0, none⟩) n n) n xs) : There w' g (n * sz) := by
  obtain ⟨h1, h2⟩ := h
  rcases h2 with ⟨h2, _⟩ | ⟨g', cap, cur, h2, h3, h4, h5, h6, h7, h8⟩
  · cases h2
  · cases h2
    intro j hj
    refine ⟨?_, ?_⟩
    · simp [World.cell?, h4]; omega
    · simp [World.frozen?, h4]
/-- How much is left of a size. -/
def sz1 (e : Ev) (n : Int) : Int := if n - e.key.size < 0 then -1 else n - e.key.size
def szL : List Ev → Int → Int
  | [], n => n
  | r :: l, n => if sz1 r n < 0 then -1 else szL l (sz1 r n)
def szEs (l : List Ev) (n : Int) : Int := if n - l.length < 0 then -1 else szL l (n - l.length)
theorem sz1_ok {r : Ev} {n : Int} (h : ¬ sz1 r n < 0) : sz1 r n = n - r.key.size ∧ 0 ≤ n - r.key.size := by
  unfold sz1 at *
  split at h
  · omega
  · rename_i h1
    rw [if_neg h1]
    exact ⟨rfl, by omega⟩
def tot : List Ev → Nat
  | [] => 0
  | r :: l => r.key.size + tot l
theorem szL_ok : ∀ {l : List Ev} {n : Int}, ¬ szL l n < 0 → (tot l : Int) ≤ n
  | [], n, h => by simp [szL, tot] at *; omega
  | r :: l, n, h => by
    simp only [szL] at h
    split at h
    · omega
    · rename_i h1
      have h2 := sz1_ok h1
      have := szL_ok h
      simp only [tot]
      omega
theorem szEs_ok {l : List Ev} {n : Int} (h : ¬ szEs l n < 0) : (l.length : Int) + tot l ≤ n := by
  unfold szEs at h
  split at h
  · omega
  · have := szL_ok h
    omega
theorem tot_mem : ∀ {l : List Ev} {r : Ev}, r ∈ l → r.key.size ≤ tot l
  | x :: l, r, h => by
    rcases List.mem_cons.1 h with rfl | h
    · simp only [tot]; omega
    · have := tot_mem h; simp only [tot]; omega
theorem szEs_le {l : List Ev} (h : ¬ szEs l 1048576 < 0) : (l.length : Int) ≤ 1048576 ∧ ∀ x ∈ l, x.key.size ≤ 1048576 := by
  have := szEs_ok h
  refine ⟨by omega, fun x hx => ?_⟩
  have := tot_mem hx
  omega
theorem szL_drop {ms : List Ev} {k : Nat} (h : k < ms.length) (n : Int) : szL (ms.drop k) n = if sz1 ms[k] n < 0 then -1 else szL (ms.drop (k + 1)) (sz1 ms[k] n) := by
  rw [List.drop_eq_getElem_cons h]
  simp [szL]
theorem sz1_le {r : Ev} {n : Int} (h : ¬ sz1 r n < 0) : 0 ≤ sz1 r n ∧ sz1 r n ≤ n := by
  have := sz1_ok h
  omega

end Go.Proofs.YtkdbcmkmcjaenaaGreatDoor

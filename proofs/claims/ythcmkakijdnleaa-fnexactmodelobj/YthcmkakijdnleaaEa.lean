/- Events, lists of them in memory; what the laws make of them: sizes, copies. -/
import Derived.Test.YthcmkakijdnleaaRows
import Derived.WalkKit
import Derived.WalkSpells
import Derived.WalkLawsBesides
import Derived.Deep.QuietTactic
import Derived.BigQuiet
import Derived.Deep.RegionHeld3
import Derived.Test.YthcmkakijdnleaaGk
import Derived.LoopN
import Derived.OwnWalk
import Derived.Laws.StructEq
namespace Go.Proofs.Ythcmkakijdnleaa
open Go.RowKit
set_option linter.unusedSimpArgs false
set_option linter.unusedVariables false

/-- An event: its dot, its key, its value, whether it is dead, and what its writer knew. -/
structure Ev where
  p : Int
  n : Int
  key : ByteArray
  v : Int
  dead : Bool
  a : Int
  b : Int
  c : Int
def flatE : List Ev → List Value
  | [] => []
  | m :: ms => .int .i64 m.p :: .int .i64 m.n :: .string m.key :: .int .i64 m.v :: .bool m.dead :: .int .i64 m.a :: .int .i64 m.b :: .int .i64 m.c :: flatE ms
theorem flatE_len (l : List Ev) : (flatE l).length = l.length * 8 := by
  induction l with
  | nil => rfl
  | cons s l ih => simp [flatE, ih]; omega
theorem flatE_at : ∀ (l : List Ev) (i : Nat) (h : i < l.length), (flatE l)[i * 8]? = some (.int .i64 l[i].p) ∧ (flatE l)[i * 8 + 1]? = some (.int .i64 l[i].n) ∧ (flatE l)[i * 8 + 2]? = some (.string l[i].key) ∧ (flatE l)[i * 8 + 3]? = some (.int .i64 l[i].v) ∧ (flatE l)[i * 8 + 4]? = some (.bool l[i].dead) ∧ (flatE l)[i * 8 + 5]? = some (.int .i64 l[i].a) ∧ (flatE l)[i * 8 + 6]? = some (.int .i64 l[i].b) ∧ (flatE l)[i * 8 + 7]? = some (.int .i64 l[i].c)
  | m :: l, 0, _ => by simp [flatE]
  | m :: l, i + 1, h => by
    have ih := flatE_at l i (by simpa using h)
    have e : ∀ k, (flatE (m :: l))[(i + 1) * 8 + k]? = (flatE l)[i * 8 + k]? := fun k => by
      rw [show (i + 1) * 8 + k = (i * 8 + k) + 8 by omega]
      rfl
    have e0 := e 0
    simp only [Nat.add_zero] at e0
    rw [e0, e 1, e 2, e 3, e 4, e 5, e 6, e 7]
    simpa using ih
theorem flatE_nil {l : List Ev} (h : flatE l = []) : l = [] := by
  cases l with
  | nil => rfl
  | cons s l => simp [flatE] at h
/-- The eight cells of an event. -/
def EAt (w : World) (b o : Nat) (m : Ev) : Prop := w.cell? ⟨b, o, none⟩ = some (.int .i64 m.p) ∧ w.cell? ⟨b, o + 1, none⟩ = some (.int .i64 m.n) ∧ w.cell? ⟨b, o + 2, none⟩ = some (.string m.key) ∧ w.cell? ⟨b, o + 3, none⟩ = some (.int .i64 m.v) ∧ w.cell? ⟨b, o + 4, none⟩ = some (.bool m.dead) ∧ w.cell? ⟨b, o + 5, none⟩ = some (.int .i64 m.a) ∧ w.cell? ⟨b, o + 6, none⟩ = some (.int .i64 m.b) ∧ w.cell? ⟨b, o + 7, none⟩ = some (.int .i64 m.c)
theorem EAt.next {W w1 : World} {b o : Nat} {x : Ev} (hb : Below W.heap.size W w1) (hg : b < W.heap.size) (h : EAt W b o x) : EAt w1 b o x := ⟨cell_next hb h.1 hg, cell_next hb h.2.1 hg, cell_next hb h.2.2.1 hg, cell_next hb h.2.2.2.1 hg, cell_next hb h.2.2.2.2.1 hg, cell_next hb h.2.2.2.2.2.1 hg, cell_next hb h.2.2.2.2.2.2.1 hg, cell_next hb h.2.2.2.2.2.2.2 hg⟩
theorem GRow.e {lo : Nat} {w : World} {p : Option Addr} {ms : List Ev} (h : GRow lo w p (flatE ms)) : ms = [] ∨ ∃ b off, p = some ⟨b, off, none⟩ ∧ lo ≤ b ∧ ∀ i (h : i < ms.length), EAt w b (off + i * 8) ms[i] := by
  rcases h with h | ⟨b, off, h1, h2, h3⟩
  · exact .inl (flatE_nil h)
  · refine .inr ⟨b, off, h1, h2, fun i hi => ?_⟩
    obtain ⟨f0, f1, f2, f3, f4, f5, f6, f7⟩ := flatE_at ms i hi
    exact ⟨GRow.at (lo := lo) h3 f0, by rw [Nat.add_assoc]; exact GRow.at (lo := lo) h3 f1, by rw [Nat.add_assoc]; exact GRow.at (lo := lo) h3 f2, by rw [Nat.add_assoc]; exact GRow.at (lo := lo) h3 f3, by rw [Nat.add_assoc]; exact GRow.at (lo := lo) h3 f4, by rw [Nat.add_assoc]; exact GRow.at (lo := lo) h3 f5, by rw [Nat.add_assoc]; exact GRow.at (lo := lo) h3 f6, by rw [Nat.add_assoc]; exact GRow.at (lo := lo) h3 f7⟩
theorem e_row {w : World} {b : Nat} : ∀ (ms : List Ev) (off : Nat), (∀ i (h : i < ms.length), EAt w b (off + i * 8) ms[i]) → ∀ j (h : j < (flatE ms).length), w.cell? ⟨b, off + j, none⟩ = some (flatE ms)[j]
  | [], off, _, j, h => by simp [flatE] at h
  | m :: ms, off, hc, j, h => by
    obtain ⟨c0, c1, c2, c3, c4, c5, c6, c7⟩ := hc 0 (by simp)
    simp only [Nat.zero_mul, Nat.add_zero, List.getElem_cons_zero] at c0 c1 c2 c3 c4 c5 c6 c7
    have ih := e_row (w := w) (b := b) ms (off + 8) (fun i hi => by
      have := hc (i + 1) (by simpa using hi)
      rw [show off + (i + 1) * 8 = off + 8 + i * 8 by omega] at this
      simpa using this)
    match j, h with
    | 0, _ => simpa [flatE] using c0
    | 1, _ => simpa [flatE] using c1
    | 2, _ => simpa [flatE] using c2
    | 3, _ => simpa [flatE] using c3
    | 4, _ => simpa [flatE] using c4
    | 5, _ => simpa [flatE] using c5
    | 6, _ => simpa [flatE] using c6
    | 7, _ => simpa [flatE] using c7
    | j + 8, h =>
      have := ih j (by simpa [flatE] using h)
      rw [show off + (j + 8) = off + 8 + j by omega]
      simpa [flatE] using this
/-- A list of events in a block of its own, from lo on, that may be written. -/
structure EW (lo : Nat) (w : World) (g n : Nat) (l : List Ev) : Prop where
  ge : lo ≤ g
  up : g < w.heap.size
  wr : There w g (n * 8)
  le : l.length ≤ n
  is : ∀ i (h : i < l.length), EAt w g (i * 8) l[i]
theorem EW.next {lo : Nat} {W W' : World} {g n : Nat} {l : List Ev} (h : EW lo W g n l) (hb : Below W.heap.size W W') : EW lo W' g n l := ⟨h.ge, Nat.lt_of_lt_of_le h.up hb.size, h.wr.next hb h.up, h.le, fun i hi => (h.is i hi).next hb h.up⟩
theorem EW.weak {lo lo' : Nat} {W : World} {g n : Nat} {l : List Ev} (h : EW lo W g n l) (hl : lo' ≤ lo) : EW lo' W g n l := ⟨Nat.le_trans hl h.ge, h.up, h.wr, h.le, h.is⟩
theorem EW.row {lo : Nat} {W : World} {g n : Nat} {l : List Ev} (h : EW lo W g n l) : GRow lo W (some ⟨g, 0, none⟩) (flatE l) := .inr ⟨g, 0, rfl, h.ge, e_row l 0 (fun i hi => by simpa using h.is i hi)⟩
theorem There.put8 {W : World} {g n k : Nat} {x : Ev} (h : There W g n) (hk : k + 7 < n) : EAt ((((((((W.setCell ⟨g, k, none⟩ (.int .i64 x.p)).setCell ⟨g, k + 1, none⟩ (.int .i64 x.n)).setCell ⟨g, k + 2, none⟩ (.string x.key)).setCell ⟨g, k + 3, none⟩ (.int .i64 x.v)).setCell ⟨g, k + 4, none⟩ (.bool x.dead)).setCell ⟨g, k + 5, none⟩ (.int .i64 x.a)).setCell ⟨g, k + 6, none⟩ (.int .i64 x.b)).setCell ⟨g, k + 7, none⟩ (.int .i64 x.c)) g k x := by
  refine ⟨?_, ?_, ?_, ?_, ?_, ?_, ?_, ?_⟩
  · rw [cell_off (by omega), cell_off (by omega), cell_off (by omega), cell_off (by omega), cell_off (by omega), cell_off (by omega), cell_off (by omega)]; exact cell_here (h (k) (by omega)).1
  · rw [cell_off (by omega), cell_off (by omega), cell_off (by omega), cell_off (by omega), cell_off (by omega), cell_off (by omega)]; exact cell_here (h.set (k + 1) (by omega)).1
  · rw [cell_off (by omega), cell_off (by omega), cell_off (by omega), cell_off (by omega), cell_off (by omega)]; exact cell_here (h.set.set (k + 2) (by omega)).1
  · rw [cell_off (by omega), cell_off (by omega), cell_off (by omega), cell_off (by omega)]; exact cell_here (h.set.set.set (k + 3) (by omega)).1
  · rw [cell_off (by omega), cell_off (by omega), cell_off (by omega)]; exact cell_here (h.set.set.set.set (k + 4) (by omega)).1
  · rw [cell_off (by omega), cell_off (by omega)]; exact cell_here (h.set.set.set.set.set (k + 5) (by omega)).1
  · rw [cell_off (by omega)]; exact cell_here (h.set.set.set.set.set.set (k + 6) (by omega)).1
  · exact cell_here (h.set.set.set.set.set.set.set (k + 7) (by omega)).1
theorem EAt.kept {W : World} {g k o : Nat} {u0 u1 u2 u3 u4 u5 u6 u7 : Value} {x : Ev} (h : EAt W g o x) (hne : o + 7 < k ∨ k + 7 < o) : EAt ((((((((W.setCell ⟨g, k, none⟩ (u0)).setCell ⟨g, k + 1, none⟩ (u1)).setCell ⟨g, k + 2, none⟩ (u2)).setCell ⟨g, k + 3, none⟩ (u3)).setCell ⟨g, k + 4, none⟩ (u4)).setCell ⟨g, k + 5, none⟩ (u5)).setCell ⟨g, k + 6, none⟩ (u6)).setCell ⟨g, k + 7, none⟩ (u7)) g o x := by
  obtain ⟨c0, c1, c2, c3, c4, c5, c6, c7⟩ := h
  refine ⟨?_, ?_, ?_, ?_, ?_, ?_, ?_, ?_⟩
  · rw [cell_off (by omega), cell_off (by omega), cell_off (by omega), cell_off (by omega), cell_off (by omega), cell_off (by omega), cell_off (by omega), cell_off (by omega)]; exact c0
  · rw [cell_off (by omega), cell_off (by omega), cell_off (by omega), cell_off (by omega), cell_off (by omega), cell_off (by omega), cell_off (by omega), cell_off (by omega)]; exact c1
  · rw [cell_off (by omega), cell_off (by omega), cell_off (by omega), cell_off (by omega), cell_off (by omega), cell_off (by omega), cell_off (by omega), cell_off (by omega)]; exact c2
  · rw [cell_off (by omega), cell_off (by omega), cell_off (by omega), cell_off (by omega), cell_off (by omega), cell_off (by omega), cell_off (by omega), cell_off (by omega)]; exact c3
  · rw [cell_off (by omega), cell_off (by omega), cell_off (by omega), cell_off (by omega), cell_off (by omega), cell_off (by omega), cell_off (by omega), cell_off (by omega)]; exact c4
  · rw [cell_off (by omega), cell_off (by omega), cell_off (by omega), cell_off (by omega), cell_off (by omega), cell_off (by omega), cell_off (by omega), cell_off (by omega)]; exact c5
  · rw [cell_off (by omega), cell_off (by omega), cell_off (by omega), cell_off (by omega), cell_off (by omega), cell_off (by omega), cell_off (by omega), cell_off (by omega)]; exact c6
  · rw [cell_off (by omega), cell_off (by omega), cell_off (by omega), cell_off (by omega), cell_off (by omega), cell_off (by omega), cell_off (by omega), cell_off (by omega)]; exact c7
theorem made_thereN {w' : World} {base e n sz : Nat} {g : Nat} {xs : List Value} (h : w'.ownsRow base e sz (.slice (some ⟨g, 0, none⟩) n n) n xs) : There w' g (n * sz) := by
  obtain ⟨h1, h2⟩ := h
  rcases h2 with ⟨h2, _⟩ | ⟨g', cap, cur, h2, h3, h4, h5, h6, h7, h8⟩
  · cases h2
  · cases h2
    intro j hj
    refine ⟨?_, ?_⟩
    · simp [World.cell?, h4]; omega
    · simp [World.frozen?, h4]
/-- How much is left of a size. -/
def sz1 (e : Ev) (n : Int) : Int := if n - e.key.size < 0 then -1 else n - e.key.size
def szL : List Ev → Int → Int
  | [], n => n
  | r :: l, n => if sz1 r n < 0 then -1 else szL l (sz1 r n)
def szEs (l : List Ev) (n : Int) : Int := if n - l.length < 0 then -1 else szL l (n - l.length)
theorem sz1_ok {r : Ev} {n : Int} (h : ¬ sz1 r n < 0) : sz1 r n = n - r.key.size ∧ 0 ≤ n - r.key.size := by
  unfold sz1 at *
  split at h
  · omega
  · rename_i h1
    rw [if_neg h1]
    exact ⟨rfl, by omega⟩
def tot : List Ev → Nat
  | [] => 0
  | r :: l => r.key.size + tot l
theorem szL_ok : ∀ {l : List Ev} {n : Int}, ¬ szL l n < 0 → (tot l : Int) ≤ n
  | [], n, h => by simp [szL, tot] at *; omega
  | r :: l, n, h => by
    simp only [szL] at h
    split at h
    · omega
    · rename_i h1
      have h2 := sz1_ok h1
      have := szL_ok h
      simp only [tot]
      omega
theorem szEs_ok {l : List Ev} {n : Int} (h : ¬ szEs l n < 0) : (l.length : Int) + tot l ≤ n := by
  unfold szEs at h
  split at h
  · omega
  · have := szL_ok h
    omega
theorem tot_mem : ∀ {l : List Ev} {r : Ev}, r ∈ l → r.key.size ≤ tot l
  | x :: l, r, h => by
    rcases List.mem_cons.1 h with rfl | h
    · simp only [tot]; omega
    · have := tot_mem h; simp only [tot]; omega
theorem szEs_le {l : List Ev} (h : ¬ szEs l 1048576 < 0) : (l.length : Int) ≤ 1048576 ∧ ∀ x ∈ l, x.key.size ≤ 1048576 := by
  have := szEs_ok h
  refine ⟨by omega, fun x hx => ?_⟩
  have := tot_mem hx
  omega
theorem szL_drop {ms : List Ev} {k : Nat} (h : k < ms.length) (n : Int) : szL (ms.drop k) n = if sz1 ms[k] n < 0 then -1 else szL (ms.drop (k + 1)) (sz1 ms[k] n) := by
  rw [List.drop_eq_getElem_cons h]
  simp [szL]
theorem sz1_le {r : Ev} {n : Int} (h : ¬ sz1 r n < 0) : 0 ≤ sz1 r n ∧ sz1 r n ≤ n := by
  have := sz1_ok h
  omega

set_option maxHeartbeats 1000000 in
theorem szE_any (x : Ev) (m : Int) (w : World) (h0 : 0 ≤ m) (hn : m ≤ 1048576) (hk : (x.key.size : Int) ≤ 9223372036854775807) :
    Calls Try.prog 26 #[.agg #[.int .i64 x.p, .int .i64 x.n, .string x.key, .int .i64 x.v, .bool x.dead, .int .i64 x.a, .int .i64 x.b, .int .i64 x.c], .int .i64 m] w fun e w' => e = .returned (.int .i64 (sz1 x m)) ∧ Below w.heap.size w w' := by
  have hw : IntKind.i64.wrap (m - x.key.size) = m - x.key.size := by rw [IntKind.wrap_i64]; omega
  by_cases hd : m - (x.key.size : Int) < 0
  · have HS : Hid (sz1 x m = -1) := if_pos hd
    go_enter Try.func26, Try.ntmps26
    go_wp2
    go_ret
    exact ⟨ret_int HS.out.symm, bel_alloc _ _⟩
  · have HS : Hid (sz1 x m = m - x.key.size) := if_neg hd
    go_enter Try.func26, Try.ntmps26
    go_wp2
    go_ret
    exact ⟨ret_int HS.out.symm, bel_alloc _ _⟩
set_option maxHeartbeats 1000000 in
theorem szEs_any (lo q : Nat) (p : Option Addr) (ms : List Ev) (m : Int) (w : World) (h0 : 0 ≤ m) (hn : m ≤ 1048576) (hm : (ms.length : Int) ≤ 9223372036854775807) (hx : ∀ x ∈ ms, (x.key.size : Int) ≤ 9223372036854775807) (hr0 : GRow lo w p (flatE ms)) :
    Calls Try.prog 7 #[.slice p ms.length q, .int .i64 m] w fun e w' => e = .returned (.int .i64 (szEs ms m)) ∧ Below w.heap.size w w' := by
  have hr : Hid _ := hr0.e
  clear hr0
  have hw : IntKind.i64.wrap (m - ms.length) = m - ms.length := by rw [IntKind.wrap_i64]; omega
  by_cases hd : m - (ms.length : Int) < 0
  · have HS : Hid (szEs ms m = -1) := if_pos hd
    go_enter Try.func7, Try.ntmps7
    go_wp2
    go_ret
    exact ⟨ret_int HS.out.symm, Below.refl _ _⟩
  · have HS : Hid (szEs ms m = szL ms (m - ms.length)) := if_neg hd
    go_enter Try.func7, Try.ntmps7
    go_wp2
    go_loopw [1, 5] (fun s1 s5 wr => ∃ (k : Nat) (c : Int), k ≤ ms.length ∧ s5 = .int .i64 k ∧ s1 = .int .i64 c ∧ 0 ≤ c ∧ c ≤ 1048576 ∧ szL ms (m - ms.length) = szL (ms.drop k) c ∧ Below w.heap.size w wr) (fun _ s5 _ => ms.length - (intOf s5).toNat)
    case atStart => exact ⟨0, m - ms.length, by omega, rfl, rfl, by omega, by omega, rfl, Below.refl _ _⟩
    case round =>
      obtain ⟨k, c, hk, rfl, rfl, hc0, hc1, hS0, hB0⟩ := hrel
      have hS : Hid _ := hS0
      have hB : Hid (Below w.heap.size w wr) := hB0
      clear hS0 hB0
      by_cases hkl : k < ms.length
      · have hkl' : (k : Int) < (ms.length : Int) := by omega
        rcases hr.out with h' | ⟨b, off, rfl, _, h2⟩
        · rw [h'] at hkl; simp at hkl
        obtain ⟨x0, x1, x2, x3, x4, x5, x6, x7⟩ := (h2 k hkl).next hB.out (cell_lt (x := ⟨b, off + k * 8, none⟩) (h2 k hkl).1)
        have hy := hx ms[k] (List.getElem_mem _)
        have HD : Hid _ := szL_drop hkl c
        have HL : Hid (¬ sz1 ms[k] c < 0 → 0 ≤ sz1 ms[k] c ∧ sz1 ms[k] c ≤ c) := sz1_le
        go_wp2_with fail
        refine (szE_any ms[k] c wr hc0 hc1 hy).mono ?_
        rintro e w1 ⟨rfl, hb⟩
        have hB1 : Hid (Below w.heap.size w w1) := hB.out.trans (hb.mono hB.out.size)
        clear hb x0 x1 x2 x3 x4 x5 x6 x7 hy hB
        generalize sz1 ms[k] c = z at *
        by_cases hz : z < 0
        · have HZ : Hid (szEs ms m = -1) := by show _ = _; rw [HS.out, hS.out, HD.out, if_pos hz]
          clear HD hS HS HL
          go_wp2
          go_ret
          exact ⟨ret_int HZ.out.symm, hB1.out⟩
        · have HZ : Hid (szL ms (m - ms.length) = szL (ms.drop (k + 1)) z) := by show _ = _; rw [hS.out, HD.out, if_neg hz]
          have HL' := HL.out (by omega)
          clear HD hS HL
          go_wp2
          go_roundw
          case rel => exact ⟨k + 1, z, by omega, by go_num, rfl, by omega, by omega, HZ.out, hB1.out⟩
          case measure => simp [intOf]; omega
      · have hkl' : ¬ (k : Int) < (ms.length : Int) := by omega
        have HZ : Hid (szEs ms m = c) := by show _ = _; rw [HS.out, hS.out, List.drop_of_length_le (by omega)]; rfl
        clear hS HS
        go_wp2
        go_ret
        exact ⟨ret_int HZ.out.symm, hB.out⟩
set_option maxHeartbeats 400000 in
theorem toDot_any (x y : Int) (w : World) :
    Calls Try.prog 13 #[.agg #[.int .i64 x, .int .i64 y]] w fun e w' => e = .returned (.agg #[.int .i64 x, .int .i64 y]) ∧ Below w.heap.size w w' := by
  go_enter Try.func13, Try.ntmps13
  go_wp2
  refine bodyPost_ret (v := .agg #[.int .i64 x, .int .i64 y]) (by simp [results, Try.results13, go_sem]) rfl ⟨rfl, ?_⟩
  repeat (first | exact Below.refl _ _ | refine Below.drew ?_ | refine below_drewN ?_ _ | refine Below.alloc ?_ (by first | (simp; done) | (simp; omega)) _ | refine Below.setCell ?_ (by first | (simp; done) | (simp; omega)) _)
set_option maxHeartbeats 1000000 in
theorem toVv_any (a b c : Int) (w : World) :
    Calls Try.prog 55 #[.agg #[.int .i64 a, .int .i64 b, .int .i64 c]] w fun e w' => e = .returned (.agg #[.int .i64 a, .int .i64 b, .int .i64 c]) ∧ Below w.heap.size w w' := by
  go_enter Try.func55, Try.ntmps55
  go_wp2
  refine wp_loop_rounds 4 ?_
  repeat (rw [rounds_succ]; go_wp2)
  refine bodyPost_ret (v := .agg #[.int .i64 a, .int .i64 b, .int .i64 c]) (by simp [results, Try.results55, go_sem]) rfl ⟨rfl, ?_⟩
  repeat (first | exact Below.refl _ _ | refine Below.drew ?_ | refine below_drewN ?_ _ | refine Below.alloc ?_ (by first | (simp; done) | (simp; omega)) _ | refine Below.setCell ?_ (by first | (simp; done) | (simp; omega)) _)

set_option maxRecDepth 20000 in
set_option maxHeartbeats 2000000 in
theorem toE_any (x : Ev) (w : World) :
    Calls Try.prog 33 #[.agg #[.int .i64 x.p, .int .i64 x.n, .string x.key, .int .i64 x.v, .bool x.dead, .int .i64 x.a, .int .i64 x.b, .int .i64 x.c]] w fun e w' => e = .returned (.agg #[.int .i64 x.p, .int .i64 x.n, .string x.key, .int .i64 x.v, .bool x.dead, .int .i64 x.a, .int .i64 x.b, .int .i64 x.c]) ∧ Below w.heap.size w w' := by
  have X : Hid (∀ o1 o2 o3, Below w.heap.size w (((w.alloc o1).alloc o2).alloc o3)) := fun o1 o2 o3 => (((Below.refl _ _).alloc (Nat.le_refl _) _).alloc (by simp) _).alloc (by simp; omega) _
  go_enter Try.func33, Try.ntmps33
  go_upto_region 2 with fail
  refine wp_gen (fun W => Box W w.heap.size [.int .i64 x.p, .int .i64 x.n, .string x.key, .int .i64 x.v, .bool x.dead, .int .i64 x.a, .int .i64 x.b, .int .i64 x.c] ∧ Box W (w.heap.size + 1) [.int .i64 0, .int .i64 0, .string ⟨#[]⟩, .int .i64 0, .bool false, .int .i64 0, .int .i64 0, .int .i64 0] ∧ Box W (w.heap.size + 1 + 1) [.int .i64 0, .int .i64 0, .string ⟨#[]⟩, .int .i64 0, .bool false, .int .i64 0, .int .i64 0, .int .i64 0] ∧ Below w.heap.size w W) ⟨box_mk.alloc.alloc, ?_, ?_, X.out _ _ _⟩ (fun W0 hI => ?_)
  · have := (box_mk (W := w.alloc (.cells #[.int .i64 x.p, .int .i64 x.n, .string x.key, .int .i64 x.v, .bool x.dead, .int .i64 x.a, .int .i64 x.b, .int .i64 x.c] 54)) (t := 56) (vs := [.int .i64 0, .int .i64 0, .string ⟨#[]⟩, .int .i64 0, .bool false, .int .i64 0, .int .i64 0, .int .i64 0])).alloc (ob := .cells #[.int .i64 0, .int .i64 0, .string ⟨#[]⟩, .int .i64 0, .bool false, .int .i64 0, .int .i64 0, .int .i64 0] 56)
    simpa using this
  · have := box_mk (W := (w.alloc (.cells #[.int .i64 x.p, .int .i64 x.n, .string x.key, .int .i64 x.v, .bool x.dead, .int .i64 x.a, .int .i64 x.b, .int .i64 x.c] 54)).alloc (.cells #[.int .i64 0, .int .i64 0, .string ⟨#[]⟩, .int .i64 0, .bool false, .int .i64 0, .int .i64 0, .int .i64 0] 56)) (t := 56) (vs := [.int .i64 0, .int .i64 0, .string ⟨#[]⟩, .int .i64 0, .bool false, .int .i64 0, .int .i64 0, .int .i64 0])
    simpa using this
  have Y : Hid (Box W0 w.heap.size [.int .i64 x.p, .int .i64 x.n, .string x.key, .int .i64 x.v, .bool x.dead, .int .i64 x.a, .int .i64 x.b, .int .i64 x.c] ∧ Box W0 (w.heap.size + 1) [.int .i64 0, .int .i64 0, .string ⟨#[]⟩, .int .i64 0, .bool false, .int .i64 0, .int .i64 0, .int .i64 0] ∧ Box W0 (w.heap.size + 1 + 1) [.int .i64 0, .int .i64 0, .string ⟨#[]⟩, .int .i64 0, .bool false, .int .i64 0, .int .i64 0, .int .i64 0] ∧ Below w.heap.size w W0) := hI
  clear hI X
  obtain ⟨a0, a1, a2, a3, a4, a5, a6, a7⟩ := Y.out.1.c8
  go_wp2_with fail
  refine (toDot_any x.p x.n W0).mono ?_
  rintro e1 W1 ⟨rfl, hb⟩
  replace Y : Hid (Box W1 w.heap.size [.int .i64 x.p, .int .i64 x.n, .string x.key, .int .i64 x.v, .bool x.dead, .int .i64 x.a, .int .i64 x.b, .int .i64 x.c] ∧ Box W1 (w.heap.size + 1) [.int .i64 0, .int .i64 0, .string ⟨#[]⟩, .int .i64 0, .bool false, .int .i64 0, .int .i64 0, .int .i64 0] ∧ Box W1 (w.heap.size + 1 + 1) [.int .i64 0, .int .i64 0, .string ⟨#[]⟩, .int .i64 0, .bool false, .int .i64 0, .int .i64 0, .int .i64 0] ∧ Below w.heap.size w W1) := ⟨Y.out.1.next hb, Y.out.2.1.next hb, Y.out.2.2.1.next hb, Y.out.2.2.2.trans (hb.mono Y.out.2.2.2.size)⟩
  clear hb a0 a1 a2 a3 a4 a5 a6 a7
  obtain ⟨a0, a1, a2, a3, a4, a5, a6, a7⟩ := Y.out.1.c8
  obtain ⟨b0, b1, b2, b3, b4, b5, b6, b7⟩ := Y.out.2.2.1.c8
  obtain ⟨f0, f1, f2, f3, f4, f5, f6, f7⟩ := Y.out.2.2.1.f8
  go_upto_region 6 with fail
  have Y2 : Hid (Box (((((W1.setCell ⟨w.heap.size + 1 + 1, 0, none⟩ (.int .i64 x.p)).setCell ⟨w.heap.size + 1 + 1, 1, none⟩ (.int .i64 x.n)).setCell ⟨w.heap.size + 1 + 1, 2, none⟩ (.string x.key)).setCell ⟨w.heap.size + 1 + 1, 3, none⟩ (.int .i64 x.v)).setCell ⟨w.heap.size + 1 + 1, 4, none⟩ (.bool x.dead)) w.heap.size [.int .i64 x.p, .int .i64 x.n, .string x.key, .int .i64 x.v, .bool x.dead, .int .i64 x.a, .int .i64 x.b, .int .i64 x.c] ∧ Box (((((W1.setCell ⟨w.heap.size + 1 + 1, 0, none⟩ (.int .i64 x.p)).setCell ⟨w.heap.size + 1 + 1, 1, none⟩ (.int .i64 x.n)).setCell ⟨w.heap.size + 1 + 1, 2, none⟩ (.string x.key)).setCell ⟨w.heap.size + 1 + 1, 3, none⟩ (.int .i64 x.v)).setCell ⟨w.heap.size + 1 + 1, 4, none⟩ (.bool x.dead)) (w.heap.size + 1) [.int .i64 0, .int .i64 0, .string ⟨#[]⟩, .int .i64 0, .bool false, .int .i64 0, .int .i64 0, .int .i64 0] ∧ Box (((((W1.setCell ⟨w.heap.size + 1 + 1, 0, none⟩ (.int .i64 x.p)).setCell ⟨w.heap.size + 1 + 1, 1, none⟩ (.int .i64 x.n)).setCell ⟨w.heap.size + 1 + 1, 2, none⟩ (.string x.key)).setCell ⟨w.heap.size + 1 + 1, 3, none⟩ (.int .i64 x.v)).setCell ⟨w.heap.size + 1 + 1, 4, none⟩ (.bool x.dead)) (w.heap.size + 1 + 1) [.int .i64 x.p, .int .i64 x.n, .string x.key, .int .i64 x.v, .bool x.dead, .int .i64 0, .int .i64 0, .int .i64 0] ∧ Below w.heap.size w (((((W1.setCell ⟨w.heap.size + 1 + 1, 0, none⟩ (.int .i64 x.p)).setCell ⟨w.heap.size + 1 + 1, 1, none⟩ (.int .i64 x.n)).setCell ⟨w.heap.size + 1 + 1, 2, none⟩ (.string x.key)).setCell ⟨w.heap.size + 1 + 1, 3, none⟩ (.int .i64 x.v)).setCell ⟨w.heap.size + 1 + 1, 4, none⟩ (.bool x.dead))) := by
    refine ⟨(((((Y.out.1.oth (by omega)).oth (by omega)).oth (by omega)).oth (by omega)).oth (by omega)), (((((Y.out.2.1.oth (by omega)).oth (by omega)).oth (by omega)).oth (by omega)).oth (by omega)), ?_, (bel_in (bel_in (bel_in (bel_in (bel_in Y.out.2.2.2 (by omega)) (by omega)) (by omega)) (by omega)) (by omega))⟩
    have := (((((Y.out.2.2.1.set (i := 0) (u := .int .i64 x.p) (by simp)).set (i := 1) (u := .int .i64 x.n) (by simp)).set (i := 2) (u := .string x.key) (by simp)).set (i := 3) (u := .int .i64 x.v) (by simp)).set (i := 4) (u := .bool x.dead) (by simp))
    simpa using this
  clear a0 a1 a2 a3 a4 a5 a6 a7 b0 b1 b2 b3 b4 b5 b6 b7 f0 f1 f2 f3 f4 f5 f6 f7 Y
  generalize (((((W1.setCell ⟨w.heap.size + 1 + 1, 0, none⟩ (.int .i64 x.p)).setCell ⟨w.heap.size + 1 + 1, 1, none⟩ (.int .i64 x.n)).setCell ⟨w.heap.size + 1 + 1, 2, none⟩ (.string x.key)).setCell ⟨w.heap.size + 1 + 1, 3, none⟩ (.int .i64 x.v)).setCell ⟨w.heap.size + 1 + 1, 4, none⟩ (.bool x.dead)) = W2 at *
  obtain ⟨a0, a1, a2, a3, a4, a5, a6, a7⟩ := Y2.out.1.c8
  go_wp2_with fail
  refine (toVv_any x.a x.b x.c W2).mono ?_
  rintro e1 W3 ⟨rfl, hb⟩
  have Y : Hid (Box W3 (w.heap.size + 1) [.int .i64 0, .int .i64 0, .string ⟨#[]⟩, .int .i64 0, .bool false, .int .i64 0, .int .i64 0, .int .i64 0] ∧ Box W3 (w.heap.size + 1 + 1) [.int .i64 x.p, .int .i64 x.n, .string x.key, .int .i64 x.v, .bool x.dead, .int .i64 0, .int .i64 0, .int .i64 0] ∧ Below w.heap.size w W3) := ⟨Y2.out.2.1.next hb, Y2.out.2.2.1.next hb, Y2.out.2.2.2.trans (hb.mono Y2.out.2.2.2.size)⟩
  clear hb a0 a1 a2 a3 a4 a5 a6 a7 Y2
  obtain ⟨a0, a1, a2, a3, a4, a5, a6, a7⟩ := Y.out.1.c8
  obtain ⟨g0, g1, g2, g3, g4, g5, g6, g7⟩ := Y.out.1.f8
  obtain ⟨b0, b1, b2, b3, b4, b5, b6, b7⟩ := Y.out.2.1.c8
  obtain ⟨f0, f1, f2, f3, f4, f5, f6, f7⟩ := Y.out.2.1.f8
  go_wp2_with fail
  have Z := (((Y.out.1.oth (q := w.heap.size + 1 + 1) (i := 5) (u := .int .i64 x.a) (by omega)).oth (q := w.heap.size + 1 + 1) (i := 6) (u := .int .i64 x.b) (by omega)).oth (q := w.heap.size + 1 + 1) (i := 7) (u := .int .i64 x.c) (by omega)).s8 (u0 := .int .i64 x.p) (u1 := .int .i64 x.n) (u2 := .string x.key) (u3 := .int .i64 x.v) (u4 := .bool x.dead) (u5 := .int .i64 x.a) (u6 := .int .i64 x.b) (u7 := .int .i64 x.c)
  obtain ⟨z0, z1, z2, z3, z4, z5, z6, z7⟩ := Z.c8
  clear a0 a1 a2 a3 a4 a5 a6 a7 g0 g1 g2 g3 g4 g5 g6 g7 b0 b1 b2 b3 b4 b5 b6 b7 f0 f1 f2 f3 f4 f5 f6 f7 Z
  refine bodyPost_ret (v := .agg #[.int .i64 x.p, .int .i64 x.n, .string x.key, .int .i64 x.v, .bool x.dead, .int .i64 x.a, .int .i64 x.b, .int .i64 x.c]) (by simp [results, Try.results33, go_sem, z0, z1, z2, z3, z4, z5, z6, z7]) rfl ⟨rfl, ?_⟩
  exact (bel_in (bel_in (bel_in (bel_in (bel_in (bel_in (bel_in (bel_in (bel_in (bel_in (bel_in Y.out.2.2 (by omega)) (by omega)) (by omega)) (by omega)) (by omega)) (by omega)) (by omega)) (by omega)) (by omega)) (by omega)) (by omega))
set_option maxRecDepth 20000 in
set_option maxHeartbeats 2000000 in
theorem toEs_any (lo q : Nat) (p : Option Addr) (ms : List Ev) (w : World) (hm : (ms.length : Int) ≤ 1048576) (hr0 : GRow lo w p (flatE ms)) :
    Calls Try.prog 9 #[.slice p ms.length q] w fun e w' => e = .returned (.slice (some ⟨w.heap.size, 0, none⟩) ms.length ms.length) ∧ Below w.heap.size w w' ∧ EW w.heap.size w' w.heap.size ms.length ms := by
  have hr : Hid _ := hr0.e
  clear hr0
  obtain ⟨w0, hrun, hown, hgrow⟩ := run_make_full (P := Try.prog) w w.heap.size 25 56 ((Try.prog.info? 56).getD default) (.agg #[.int .i64 0, .int .i64 0, .string ⟨#[]⟩, .int .i64 0, .bool false, .int .i64 0, .int .i64 0, .int .i64 0]) 8 Try.underlying25 (by kernel_rfl) (by kernel_rfl) (by kernel_rfl) .i64 .i64 ms.length
    (by have : ((Try.prog.info? 56).getD default).bytes = 72 := by kernel_rfl
        rw [this]; omega) (by unfold maxLen; omega) (Nat.le_refl _)
  have hT : Hid (There w0 w.heap.size (ms.length * 8)) := made_thereN hown
  have hB : Hid (Below w.heap.size w w0) := (Below.refl _ _).grown hgrow (Nat.le_refl _) (fun k e => by cases e)
  have hlt : Hid (w.heap.size < w0.heap.size) := (hown.lt w.heap.size rfl).2
  clear hown hgrow
  go_enter Try.func9, Try.ntmps9
  go_wp2
  clear hrun
  go_loopw [4] (fun s4 wr => ∃ k : Nat, k ≤ ms.length ∧ s4 = .int .i64 k ∧ Below w.heap.size w wr ∧ There wr w.heap.size (ms.length * 8) ∧ (∀ i (h : i < ms.length), i < k → EAt wr w.heap.size (i * 8) ms[i]) ∧ w.heap.size < wr.heap.size) (fun s4 _ => ms.length - (intOf s4).toNat)
  case atStart => exact ⟨0, by omega, rfl, hB.out, hT.out, fun i h h' => by omega, hlt.out⟩
  case round =>
    clear hT hB hlt
    obtain ⟨k, hk, rfl, hB0, hT0, hS0, hlt0⟩ := hrel
    have hB : Hid (Below w.heap.size w wr) := hB0
    have hT : Hid (There wr w.heap.size (ms.length * 8)) := hT0
    have hS : Hid (∀ i (h : i < ms.length), i < k → EAt wr w.heap.size (i * 8) ms[i]) := hS0
    clear hB0 hT0 hS0
    by_cases hkl : k < ms.length
    · have hkl' : (k : Int) < (ms.length : Int) := by omega
      rcases hr.out with h' | ⟨b, off, rfl, _, h2⟩
      · rw [h'] at hkl; simp at hkl
      obtain ⟨x0, x1, x2, x3, x4, x5, x6, x7⟩ := (h2 k hkl).next hB.out (cell_lt (x := ⟨b, off + k * 8, none⟩) (h2 k hkl).1)
      go_wp2_with fail
      refine (toE_any ms[k] wr).mono ?_
      rintro e w1 ⟨rfl, hb⟩
      have hT1 : Hid (There w1 w.heap.size (ms.length * 8)) := hT.out.next hb hlt0
      have hB1 : Hid (Below w.heap.size w w1) := hB.out.trans (hb.mono (by omega))
      have hS1 : Hid (∀ i (h : i < ms.length), i < k → EAt w1 w.heap.size (i * 8) ms[i]) := fun i h h' => (hS.out i h h').next hb hlt0
      have hlt1 : Hid (w.heap.size < w1.heap.size) := Nat.lt_of_lt_of_le hlt0 hb.size
      obtain ⟨v0, y0⟩ := Option.isSome_iff_exists.1 (hT1.out (k * 8) (by omega)).1
      have z0 := (hT1.out (k * 8) (by omega)).2
      obtain ⟨v1, y1⟩ := Option.isSome_iff_exists.1 (hT1.out (k * 8 + 1) (by omega)).1
      have z1 := (hT1.out (k * 8 + 1) (by omega)).2
      obtain ⟨v2, y2⟩ := Option.isSome_iff_exists.1 (hT1.out (k * 8 + 2) (by omega)).1
      have z2 := (hT1.out (k * 8 + 2) (by omega)).2
      obtain ⟨v3, y3⟩ := Option.isSome_iff_exists.1 (hT1.out (k * 8 + 3) (by omega)).1
      have z3 := (hT1.out (k * 8 + 3) (by omega)).2
      obtain ⟨v4, y4⟩ := Option.isSome_iff_exists.1 (hT1.out (k * 8 + 4) (by omega)).1
      have z4 := (hT1.out (k * 8 + 4) (by omega)).2
      obtain ⟨v5, y5⟩ := Option.isSome_iff_exists.1 (hT1.out (k * 8 + 5) (by omega)).1
      have z5 := (hT1.out (k * 8 + 5) (by omega)).2
      obtain ⟨v6, y6⟩ := Option.isSome_iff_exists.1 (hT1.out (k * 8 + 6) (by omega)).1
      have z6 := (hT1.out (k * 8 + 6) (by omega)).2
      obtain ⟨v7, y7⟩ := Option.isSome_iff_exists.1 (hT1.out (k * 8 + 7) (by omega)).1
      have z7 := (hT1.out (k * 8 + 7) (by omega)).2
      clear hb hT hB hS x0 x1 x2 x3 x4 x5 x6 x7 hlt0
      go_wp2_with fail
      go_roundw
      case rel =>
        refine ⟨k + 1, by omega, by go_num, ?_, hT1.out.set.set.set.set.set.set.set.set, fun i h h' => ?_, by simpa [World.setCell] using hlt1.out⟩
        · exact ((((((((hB1.out.setCell (Nat.le_refl _) _).setCell (Nat.le_refl _) _).setCell (Nat.le_refl _) _).setCell (Nat.le_refl _) _).setCell (Nat.le_refl _) _).setCell (Nat.le_refl _) _).setCell (Nat.le_refl _) _).setCell (Nat.le_refl _) _)
        · by_cases e : i = k
          · subst e; exact There.put8 hT1.out (by omega)
          · exact (hS1.out i h (by omega)).kept (by omega)
      case measure => simp [intOf]; omega
    · have hkl' : ¬ (k : Int) < (ms.length : Int) := by omega
      go_wp2
      go_ret
      exact ⟨rfl, hB.out, ⟨Nat.le_refl _, hlt0, hT.out, Nat.le_refl _, fun i h => hS.out i h (by omega)⟩⟩
end Go.Proofs.Ythcmkakijdnleaa

/- Rows of a view; what the laws make of them. -/
import Derived.Test.YtomcpdbaenohdaaRows
import Derived.WalkKit
import Derived.WalkSpells
import Derived.WalkLawsBesides
import Derived.Deep.QuietTactic
import Derived.BigQuiet
import Derived.Deep.RegionHeld3
import Derived.Test.YtomcpdbaenohdaaGk
import Derived.LoopN
import Derived.OwnWalk
import Derived.Laws.StructEq
namespace Go.Proofs.Ytomcpdbaenohdaa
open Go.RowKit
set_option linter.unusedSimpArgs false
set_option linter.unusedVariables false

/-- Numbers, as they lie in memory. -/
def ints (vs : List Int) : List Value := vs.map (fun v => .int .i64 v)
theorem ints_len (vs : List Int) : (ints vs).length = vs.length := by simp [ints]
theorem ints_at (vs : List Int) (i : Nat) (h : i < vs.length) : (ints vs)[i]? = some (.int .i64 vs[i]) := by simp [ints, h]
theorem ints_one (vs : List Int) : ∀ u ∈ ints vs, u.oneCell' = true := by
  intro u hu
  simp only [ints, List.mem_map] at hu
  obtain ⟨v, _, rfl⟩ := hu
  rfl
theorem ints_nil {vs : List Int} (h : ints vs = []) : vs = [] := by simpa [ints] using h
theorem GRow.i {lo : Nat} {w : World} {p : Option Addr} {vs : List Int} (h : GRow lo w p (ints vs)) : vs = [] ∨ ∃ b off, p = some ⟨b, off, none⟩ ∧ lo ≤ b ∧ ∀ i (h : i < vs.length), w.cell? ⟨b, off + i, none⟩ = some (.int .i64 vs[i]) := by
  rcases h with h | ⟨b, off, h1, h2, h3⟩
  · exact .inl (ints_nil h)
  · exact .inr ⟨b, off, h1, h2, fun i hi => GRow.at (lo := lo) h3 (ints_at vs i hi)⟩
theorem i_row {w : World} {b off : Nat} {vs : List Int} (h : ∀ i (h : i < vs.length), w.cell? ⟨b, off + i, none⟩ = some (.int .i64 vs[i])) : ∀ j (h : j < (ints vs).length), w.cell? ⟨b, off + j, none⟩ = some (ints vs)[j] := fun j hj => by
  have hj' : j < vs.length := by simpa [ints] using hj
  rw [h j hj']
  simp [ints]
/-- A row of a view; and where its numbers lie. -/
structure Rw where
  part : Int
  key : ByteArray
  vs : List Int
structure Rm where
  r : Rw
  p : Option Addr
  q : Nat
def flatR : List Rm → List Value
  | [] => []
  | m :: ms => .int .i64 m.r.part :: .string m.r.key :: .slice m.p m.r.vs.length m.q :: flatR ms
theorem flatR_len (l : List Rm) : (flatR l).length = l.length * 3 := by
  induction l with
  | nil => rfl
  | cons s l ih => simp [flatR, ih]; omega
theorem flatR_app (a b : List Rm) : flatR (a ++ b) = flatR a ++ flatR b := by
  induction a with
  | nil => rfl
  | cons s l ih => simp [flatR, ih]
theorem flatR_at : ∀ (l : List Rm) (i : Nat) (h : i < l.length), (flatR l)[i * 3]? = some (.int .i64 l[i].r.part) ∧ (flatR l)[i * 3 + 1]? = some (.string l[i].r.key) ∧ (flatR l)[i * 3 + 2]? = some (.slice l[i].p l[i].r.vs.length l[i].q)
  | m :: l, 0, _ => by simp [flatR]
  | m :: l, i + 1, h => by
    have ih := flatR_at l i (by simpa using h)
    have e : ∀ k, (flatR (m :: l))[(i + 1) * 3 + k]? = (flatR l)[i * 3 + k]? := fun k => by
      rw [show (i + 1) * 3 + k = (i * 3 + k) + 3 by omega]
      rfl
    have e0 := e 0
    simp only [Nat.add_zero] at e0
    rw [e0, e 1, e 2]
    simpa using ih
theorem flatR_one (l : List Rm) : ∀ u ∈ flatR l, u.oneCell' = true := by
  induction l with
  | nil => simp [flatR]
  | cons m l ih =>
    intro u hu
    simp only [flatR, List.mem_cons] at hu
    rcases hu with rfl | rfl | rfl | hu
    · rfl
    · rfl
    · rfl
    · exact ih u hu
theorem flatR_nil {l : List Rm} (h : flatR l = []) : l = [] := by
  cases l with
  | nil => rfl
  | cons s l => simp [flatR] at h
/-- The three cells of a row. -/
def RAt (w : World) (b o : Nat) (m : Rm) : Prop := w.cell? ⟨b, o, none⟩ = some (.int .i64 m.r.part) ∧ w.cell? ⟨b, o + 1, none⟩ = some (.string m.r.key) ∧ w.cell? ⟨b, o + 2, none⟩ = some (.slice m.p m.r.vs.length m.q)
theorem RAt.next {W w1 : World} {b o : Nat} {x : Rm} (hb : Below W.heap.size W w1) (hg : b < W.heap.size) (h : RAt W b o x) : RAt w1 b o x := ⟨cell_next hb h.1 hg, cell_next hb h.2.1 hg, cell_next hb h.2.2 hg⟩
theorem GRow.r {lo : Nat} {w : World} {p : Option Addr} {ms : List Rm} (h : GRow lo w p (flatR ms)) : ms = [] ∨ ∃ b off, p = some ⟨b, off, none⟩ ∧ lo ≤ b ∧ ∀ i (h : i < ms.length), RAt w b (off + i * 3) ms[i] := by
  rcases h with h | ⟨b, off, h1, h2, h3⟩
  · exact .inl (flatR_nil h)
  · refine .inr ⟨b, off, h1, h2, fun i hi => ?_⟩
    obtain ⟨f0, f1, f2⟩ := flatR_at ms i hi
    exact ⟨GRow.at (lo := lo) h3 f0, by rw [Nat.add_assoc]; exact GRow.at (lo := lo) h3 f1, by rw [Nat.add_assoc]; exact GRow.at (lo := lo) h3 f2⟩
theorem r_row {w : World} {b : Nat} : ∀ (ms : List Rm) (off : Nat), (∀ i (h : i < ms.length), RAt w b (off + i * 3) ms[i]) → ∀ j (h : j < (flatR ms).length), w.cell? ⟨b, off + j, none⟩ = some (flatR ms)[j]
  | [], off, _, j, h => by simp [flatR] at h
  | m :: ms, off, hc, j, h => by
    obtain ⟨c0, c1, c2⟩ := hc 0 (by simp)
    simp only [Nat.zero_mul, Nat.add_zero, List.getElem_cons_zero] at c0 c1 c2
    have ih := r_row (w := w) (b := b) ms (off + 3) (fun i hi => by
      have := hc (i + 1) (by simpa using hi)
      rw [show off + (i + 1) * 3 = off + 3 + i * 3 by omega] at this
      simpa using this)
    match j, h with
    | 0, _ => simpa [flatR] using c0
    | 1, _ => simpa [flatR] using c1
    | 2, _ => simpa [flatR] using c2
    | j + 3, h =>
      have := ih j (by simpa [flatR] using h)
      rw [show off + (j + 3) = off + 3 + j by omega]
      simpa [flatR] using this
/-- A list of rows with their numbers, in blocks from lo on. -/
structure RR (lo : Nat) (W : World) (p : Option Addr) (ms : List Rm) : Prop where
  row : GRow lo W p (flatR ms)
  sub : ∀ m ∈ ms, GRow lo W m.p (ints m.r.vs)
theorem RR.next {lo : Nat} {W W' : World} {p : Option Addr} {ms : List Rm} (h : RR lo W p ms) (hb : Below W.heap.size W W') : RR lo W' p ms := ⟨h.row.next hb, fun m hm => (h.sub m hm).next hb⟩
theorem RR.weak {lo lo' : Nat} {W : World} {p : Option Addr} {ms : List Rm} (h : RR lo W p ms) (hl : lo' ≤ lo) : RR lo' W p ms := ⟨h.row.weak hl, fun m hm => (h.sub m hm).weak hl⟩
theorem There.put3 {W : World} {g n k : Nat} {x : Rm} (h : There W g n) (hk : k + 2 < n) : RAt (((W.setCell ⟨g, k, none⟩ (.int .i64 x.r.part)).setCell ⟨g, k + 1, none⟩ (.string x.r.key)).setCell ⟨g, k + 2, none⟩ (.slice x.p x.r.vs.length x.q)) g k x := by
  refine ⟨?_, ?_, ?_⟩
  · rw [cell_off (by omega), cell_off (by omega)]; exact cell_here (h k (by omega)).1
  · rw [cell_off (by omega)]; exact cell_here (h.set (k + 1) (by omega)).1
  · exact cell_here (h.set.set (k + 2) (by omega)).1
theorem RAt.kept {W : World} {g k o : Nat} {u v y : Value} {x : Rm} (h : RAt W g o x) (hne : o + 2 < k ∨ k + 2 < o) : RAt (((W.setCell ⟨g, k, none⟩ u).setCell ⟨g, k + 1, none⟩ v).setCell ⟨g, k + 2, none⟩ y) g o x :=
  ⟨by rw [cell_off (by omega), cell_off (by omega), cell_off (by omega)]; exact h.1, by rw [cell_off (by omega), cell_off (by omega), cell_off (by omega)]; exact h.2.1, by rw [cell_off (by omega), cell_off (by omega), cell_off (by omega)]; exact h.2.2⟩
theorem made_thereN {w' : World} {base e n sz : Nat} {g : Nat} {xs : List Value} (h : w'.ownsRow base e sz (.slice (some ⟨g, 0, none⟩) n n) n xs) : There w' g (n * sz) := by
  obtain ⟨h1, h2⟩ := h
  rcases h2 with ⟨h2, _⟩ | ⟨g', cap, cur, h2, h3, h4, h5, h6, h7, h8⟩
  · cases h2
  · cases h2
    intro j hj
    refine ⟨?_, ?_⟩
    · simp [World.cell?, h4]; omega
    · simp [World.frozen?, h4]
/-- How much is left of a size. -/
def sz1 (r : Rw) (n : Int) : Int := if n - r.key.size < 0 then -1 else if n - r.key.size - r.vs.length < 0 then -1 else n - r.key.size - r.vs.length
def szL : List Rw → Int → Int
  | [], n => n
  | r :: l, n => if sz1 r n < 0 then -1 else szL l (sz1 r n)
def szRs (l : List Rw) (n : Int) : Int := if n - l.length < 0 then -1 else szL l (n - l.length)
theorem sz1_ok {r : Rw} {n : Int} (h : ¬ sz1 r n < 0) : sz1 r n = n - r.key.size - r.vs.length ∧ 0 ≤ n - r.key.size - r.vs.length := by
  unfold sz1 at *
  split at h
  · omega
  · split at h
    · omega
    · rename_i h1 h2
      rw [if_neg h1, if_neg h2]
      exact ⟨rfl, by omega⟩
def tot : List Rw → Nat
  | [] => 0
  | r :: l => r.key.size + r.vs.length + tot l
theorem szL_ok : ∀ {l : List Rw} {n : Int}, ¬ szL l n < 0 → (tot l : Int) ≤ n
  | [], n, h => by simp [szL, tot] at *; omega
  | r :: l, n, h => by
    simp only [szL] at h
    split at h
    · omega
    · rename_i h1
      have h2 := sz1_ok h1
      have := szL_ok h
      simp only [tot]
      omega
theorem szRs_ok {l : List Rw} {n : Int} (h : ¬ szRs l n < 0) : (l.length : Int) + tot l ≤ n := by
  unfold szRs at h
  split at h
  · omega
  · have := szL_ok h
    omega
theorem tot_mem : ∀ {l : List Rw} {r : Rw}, r ∈ l → r.key.size + r.vs.length ≤ tot l
  | x :: l, r, h => by
    rcases List.mem_cons.1 h with rfl | h
    · simp only [tot]; omega
    · have := tot_mem h; simp only [tot]; omega

set_option maxHeartbeats 1000000 in
theorem szIs_any (n q : Nat) (p : Option Addr) (m : Int) (w : World) (h0 : 0 ≤ m) (hn : m ≤ 1048576) (hm : (n : Int) ≤ 9223372036854775807) :
    Calls Try.prog 34 #[.slice p n q, .int .i64 m] w fun e w' => e = .returned (.int .i64 (if m - n < 0 then -1 else m - n)) ∧ w' = w := by
  have hw : IntKind.i64.wrap (m - n) = m - n := by rw [IntKind.wrap_i64]; omega
  by_cases hd : m - (n : Int) < 0
  · rw [if_pos hd]
    go_enter Try.func34, Try.ntmps34
    go_wp2
    go_ret
    exact ⟨rfl, rfl⟩
  · rw [if_neg hd]
    go_enter Try.func34, Try.ntmps34
    go_wp2
    go_ret
    exact ⟨rfl, rfl⟩
set_option maxHeartbeats 1000000 in
theorem szR_any (x : Rm) (m : Int) (w : World) (h0 : 0 ≤ m) (hn : m ≤ 1048576) (hm : (x.r.vs.length : Int) ≤ 9223372036854775807) (hk : (x.r.key.size : Int) ≤ 9223372036854775807) :
    Calls Try.prog 17 #[.agg #[.int .i64 x.r.part, .string x.r.key, .slice x.p x.r.vs.length x.q], .int .i64 m] w fun e w' => e = .returned (.int .i64 (sz1 x.r m)) ∧ Below w.heap.size w w' := by
  have hw : IntKind.i64.wrap (m - x.r.key.size) = m - x.r.key.size := by rw [IntKind.wrap_i64]; omega
  by_cases hd : m - (x.r.key.size : Int) < 0
  · have HS : Hid (sz1 x.r m = -1) := if_pos hd
    go_enter Try.func17, Try.ntmps17
    go_wp2
    go_ret
    exact ⟨ret_int HS.out.symm, bel_alloc _ _⟩
  · have C := szIs_any x.r.vs.length x.q x.p (m - x.r.key.size) (w.alloc (.cells #[.int .i64 x.r.part, .string x.r.key, .slice x.p x.r.vs.length x.q] 37)) (by omega) (by omega) hm
    by_cases he : m - x.r.key.size - x.r.vs.length < 0
    · have HS : Hid (sz1 x.r m = -1) := by show _ = _; unfold sz1; rw [if_neg hd, if_pos he]
      rw [if_pos he] at C
      have HC : Hid _ := C
      clear C
      go_enter Try.func17, Try.ntmps17
      go_wp2_with fail
      refine Calls.mono HC.out ?_
      rintro e w1 ⟨rfl, rfl⟩
      go_wp2
      go_ret
      exact ⟨ret_int HS.out.symm, bel_alloc _ _⟩
    · have HS : Hid (sz1 x.r m = m - x.r.key.size - x.r.vs.length) := by show _ = _; unfold sz1; rw [if_neg hd, if_neg he]
      rw [if_neg he] at C
      have HC : Hid _ := C
      clear C
      go_enter Try.func17, Try.ntmps17
      go_wp2_with fail
      refine Calls.mono HC.out ?_
      rintro e w1 ⟨rfl, rfl⟩
      go_wp2
      go_ret
      exact ⟨ret_int HS.out.symm, bel_alloc _ _⟩
set_option maxHeartbeats 400000 in
theorem toIs_any (lo q : Nat) (p : Option Addr) (vs : List Int) (w : World) (hm : (vs.length : Int) ≤ 1048576) (hr0 : GRow lo w p (ints vs)) :
    Calls Try.prog 35 #[.slice p vs.length q] w fun e w' => e = .returned (.slice (some ⟨w.heap.size, 0, none⟩) vs.length vs.length) ∧ Below w.heap.size w w' ∧ GRow w.heap.size w' (some ⟨w.heap.size, 0, none⟩) (ints vs) ∧ There w' w.heap.size vs.length ∧ w.heap.size < w'.heap.size := by
  have hr : Hid _ := hr0.i
  clear hr0
  obtain ⟨w0, hrun, hown, hgrow⟩ := run_make_full (P := Try.prog) w w.heap.size 35 3 ((Try.prog.info? 3).getD default) (.int .i64 0) 1 Try.underlying35 (by kernel_rfl) (by kernel_rfl) (by kernel_rfl) .i64 .i64 vs.length
    (by have : ((Try.prog.info? 3).getD default).bytes = 8 := by kernel_rfl
        rw [this]; omega) (by unfold maxLen; omega) (Nat.le_refl _)
  have hT : Hid (There w0 w.heap.size vs.length) := by
    show There w0 w.heap.size vs.length
    have := made_thereN hown
    simpa using this
  have hB : Hid (Below w.heap.size w w0) := (Below.refl _ _).grown hgrow (Nat.le_refl _) (fun k e => by cases e)
  have hlt : Hid (w.heap.size < w0.heap.size) := (hown.lt w.heap.size rfl).2
  clear hown hgrow
  go_enter Try.func35, Try.ntmps35
  go_wp2
  clear hrun
  go_loopw [4] (fun s4 wr => ∃ k : Nat, k ≤ vs.length ∧ s4 = .int .i64 k ∧ Below w.heap.size w wr ∧ There wr w.heap.size vs.length ∧ (∀ i (h : i < vs.length), i < k → wr.cell? ⟨w.heap.size, i, none⟩ = some (.int .i64 vs[i])) ∧ w.heap.size < wr.heap.size) (fun s4 _ => vs.length - (intOf s4).toNat)
  case atStart => exact ⟨0, by omega, rfl, hB.out, hT.out, fun i h h' => by omega, hlt.out⟩
  case round =>
    clear hT hB hlt
    obtain ⟨k, hk, rfl, hB0, hT0, hS0, hlt0⟩ := hrel
    have hB : Hid (Below w.heap.size w wr) := hB0
    have hT : Hid (There wr w.heap.size vs.length) := hT0
    have hS : Hid (∀ i (h : i < vs.length), i < k → wr.cell? ⟨w.heap.size, i, none⟩ = some (.int .i64 vs[i])) := hS0
    clear hB0 hT0 hS0
    by_cases hkl : k < vs.length
    · have hkl' : (k : Int) < (vs.length : Int) := by omega
      have k0 : (0 : Int) ≤ (k : Int) := by omega
      rcases hr.out with h' | ⟨b, off, rfl, _, h2⟩
      · rw [h'] at hkl; simp at hkl
      have x0 := cell_next hB.out (h2 k hkl) (cell_lt (x := ⟨b, off + k, none⟩) (h2 k hkl))
      obtain ⟨v0, y0⟩ := Option.isSome_iff_exists.1 (hT.out k (by omega)).1
      have z0 := (hT.out k (by omega)).2
      go_wp2
      go_roundw
      case rel =>
        refine ⟨k + 1, by omega, by go_num, hB.out.setCell (Nat.le_refl _) _, hT.out.set, fun i h h' => ?_, by simpa [World.setCell] using hlt0⟩
        by_cases e : i = k
        · subst e; exact cell_here (hT.out i (by omega)).1
        · rw [cell_off (by omega)]; exact hS.out i h (by omega)
      case measure => simp [intOf]; omega
    · have hkl' : ¬ (k : Int) < (vs.length : Int) := by omega
      go_wp2
      go_ret
      exact ⟨rfl, hB.out, .inr ⟨_, 0, rfl, Nat.le_refl _, i_row (fun i h => by simpa using hS.out i h (by omega))⟩, hT.out, hlt0⟩
end Go.Proofs.Ytomcpdbaenohdaa

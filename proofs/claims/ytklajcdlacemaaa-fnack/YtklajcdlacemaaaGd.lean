/- Events and lists of them; what the laws make of a group. -/
import Derived.Test.YtklajcdlacemaaaRows
import Derived.WalkKit
import Derived.WalkSpells
import Derived.WalkLawsBesides
import Derived.Deep.QuietTactic
import Derived.BigQuiet
import Derived.Deep.RegionHeld3
import Derived.Test.YtklajcdlacemaaaGk
import Derived.LoopN
import Derived.OwnWalk
import Derived.Laws.StructEq
namespace Go.Proofs.Ytklajcdlacemaaa
open Go.RowKit
set_option linter.unusedSimpArgs false
set_option linter.unusedVariables false

/-- An event. -/
structure Dt where
  p : Int
  n : Int
def flatD : List Dt → List Value
  | [] => []
  | m :: ms => .int .i64 m.p :: .int .i64 m.n :: flatD ms
theorem flatD_len (l : List Dt) : (flatD l).length = l.length * 2 := by
  induction l with
  | nil => rfl
  | cons s l ih => simp [flatD, ih]; omega
theorem flatD_app (a b : List Dt) : flatD (a ++ b) = flatD a ++ flatD b := by
  induction a with
  | nil => rfl
  | cons s l ih => simp [flatD, ih]
theorem flatD_at : ∀ (l : List Dt) (i : Nat) (h : i < l.length), (flatD l)[i * 2]? = some (.int .i64 l[i].p) ∧ (flatD l)[i * 2 + 1]? = some (.int .i64 l[i].n)
  | m :: l, 0, _ => by simp [flatD]
  | m :: l, i + 1, h => by
    have ih := flatD_at l i (by simpa using h)
    have e : ∀ k, (flatD (m :: l))[(i + 1) * 2 + k]? = (flatD l)[i * 2 + k]? := fun k => by
      rw [show (i + 1) * 2 + k = (i * 2 + k) + 2 by omega]
      rfl
    have e0 := e 0
    simp only [Nat.add_zero] at e0
    rw [e0, e 1]
    simpa using ih
theorem flatD_one (l : List Dt) : ∀ u ∈ flatD l, u.oneCell' = true := by
  induction l with
  | nil => simp [flatD]
  | cons m l ih =>
    intro u hu
    simp only [flatD, List.mem_cons] at hu
    rcases hu with rfl | rfl | hu
    · rfl
    · rfl
    · exact ih u hu
theorem flatD_nil {l : List Dt} (h : flatD l = []) : l = [] := by
  cases l with
  | nil => rfl
  | cons s l => simp [flatD] at h
/-- The two cells of an event. -/
def DAt (w : World) (b o : Nat) (m : Dt) : Prop := w.cell? ⟨b, o, none⟩ = some (.int .i64 m.p) ∧ w.cell? ⟨b, o + 1, none⟩ = some (.int .i64 m.n)
theorem DAt.next {W w1 : World} {b o : Nat} {x : Dt} (hb : Below W.heap.size W w1) (hg : b < W.heap.size) (h : DAt W b o x) : DAt w1 b o x := ⟨cell_next hb h.1 hg, cell_next hb h.2 hg⟩
theorem GRow.d {lo : Nat} {w : World} {p : Option Addr} {ms : List Dt} (h : GRow lo w p (flatD ms)) : ms = [] ∨ ∃ b off, p = some ⟨b, off, none⟩ ∧ lo ≤ b ∧ ∀ i (h : i < ms.length), DAt w b (off + i * 2) ms[i] := by
  rcases h with h | ⟨b, off, h1, h2, h3⟩
  · exact .inl (flatD_nil h)
  · refine .inr ⟨b, off, h1, h2, fun i hi => ?_⟩
    obtain ⟨f0, f1⟩ := flatD_at ms i hi
    exact ⟨GRow.at (lo := lo) h3 f0, by rw [Nat.add_assoc]; exact GRow.at (lo := lo) h3 f1⟩
theorem d_row {w : World} {b : Nat} : ∀ (ms : List Dt) (off : Nat), (∀ i (h : i < ms.length), DAt w b (off + i * 2) ms[i]) → ∀ j (h : j < (flatD ms).length), w.cell? ⟨b, off + j, none⟩ = some (flatD ms)[j]
  | [], off, _, j, h => by simp [flatD] at h
  | m :: ms, off, hc, j, h => by
    obtain ⟨c0, c1⟩ := hc 0 (by simp)
    simp only [Nat.zero_mul, Nat.add_zero, List.getElem_cons_zero] at c0 c1
    have ih := d_row (w := w) (b := b) ms (off + 2) (fun i hi => by
      have := hc (i + 1) (by simpa using hi)
      rw [show off + (i + 1) * 2 = off + 2 + i * 2 by omega] at this
      simpa using this)
    match j, h with
    | 0, _ => simpa [flatD] using c0
    | 1, _ => simpa [flatD] using c1
    | j + 2, h =>
      have := ih j (by simpa [flatD] using h)
      rw [show off + (j + 2) = off + 2 + j by omega]
      simpa [flatD] using this
theorem There.put2 {W : World} {g n k : Nat} {x : Dt} (h : There W g n) (hk : k + 1 < n) : DAt ((W.setCell ⟨g, k, none⟩ (.int .i64 x.p)).setCell ⟨g, k + 1, none⟩ (.int .i64 x.n)) g k x := by
  refine ⟨?_, ?_⟩
  · rw [cell_off (by omega)]; exact cell_here (h k (by omega)).1
  · exact cell_here (h.set (k + 1) (by omega)).1
theorem DAt.kept {W : World} {g k o : Nat} {u v : Value} {x : Dt} (h : DAt W g o x) (hne : o + 1 < k ∨ k + 1 < o) : DAt ((W.setCell ⟨g, k, none⟩ u).setCell ⟨g, k + 1, none⟩ v) g o x :=
  ⟨by rw [cell_off (by omega), cell_off (by omega)]; exact h.1, by rw [cell_off (by omega), cell_off (by omega)]; exact h.2⟩
theorem made_there2 {w' : World} {base e n : Nat} {g : Nat} {xs : List Value} (h : w'.ownsRow base e 2 (.slice (some ⟨g, 0, none⟩) n n) n xs) : There w' g (n * 2) := by
  obtain ⟨h1, h2⟩ := h
  rcases h2 with ⟨h2, _⟩ | ⟨g', cap, cur, h2, h3, h4, h5, h6, h7, h8⟩
  · cases h2
  · cases h2
    intro j hj
    refine ⟨?_, ?_⟩
    · simp [World.cell?, h4]; omega
    · simp [World.frozen?, h4]
/-- A row of a group that may be written, from the block lo on: its events, and its cells. -/
structure MR (lo : Nat) (w : World) (p : Option Addr) (l : List Dt) : Prop where
  row : GRow lo w p (flatD l)
  wr : l = [] ∨ ∃ g, p = some ⟨g, 0, none⟩ ∧ lo ≤ g ∧ g < w.heap.size ∧ There w g (l.length * 2)
theorem MR.next {lo : Nat} {w w' : World} {p : Option Addr} {l : List Dt} (h : MR lo w p l) (hb : Below w.heap.size w w') : MR lo w' p l := by
  refine ⟨h.row.next hb, ?_⟩
  rcases h.wr with h' | ⟨g, h1, h2, h3, h4⟩
  · exact .inl h'
  · exact .inr ⟨g, h1, h2, Nat.lt_of_lt_of_le h3 hb.size, h4.next hb h3⟩
theorem MR.weak {lo lo' : Nat} {w : World} {p : Option Addr} {l : List Dt} (h : MR lo w p l) (hl : lo' ≤ lo) : MR lo' w p l := by
  refine ⟨h.row.weak hl, ?_⟩
  rcases h.wr with h' | ⟨g, h1, h2, h3⟩
  · exact .inl h'
  · exact .inr ⟨g, h1, by omega, h3⟩
theorem MR.nil (lo : Nat) (w : World) (p : Option Addr) : MR lo w p [] := ⟨.inl rfl, .inl rfl⟩
theorem OwnG.mr {lo e : Nat} {w : World} {p : Option Addr} {l : List Dt} {c : Nat} (h : OwnG w e 2 (.slice p l.length c) l.length (flatD l) lo) : MR lo w p l := by
  obtain ⟨_, _, e1, _, hg⟩ := h.grow
  cases e1
  refine ⟨hg, ?_⟩
  rcases h.own.2 with ⟨h2, h3⟩ | ⟨g', cap, cur, h2, h3, h4, h5, h6, h7, h8⟩
  · exact .inl (List.length_eq_zero_iff.1 h3)
  · cases h2
    refine .inr ⟨g', rfl, h.ge _ rfl, (h.own.lt g' rfl).2, fun j hj => ⟨?_, ?_⟩⟩
    · simp [World.cell?, h4]
      have : l.length * 2 ≤ c * 2 := Nat.mul_le_mul_right _ h5
      omega
    · simp [World.frozen?, h4]

theorem MR.set {lo b i : Nat} {w : World} {p : Option Addr} {l : List Dt} {u : Value} (h : MR lo w p l) (hb : b < lo) : MR lo (w.setCell ⟨b, i, none⟩ u) p l := by
  refine ⟨h.row.keep (kept_set hb), ?_⟩
  rcases h.wr with h' | ⟨g, h1, h2, h3, h4⟩
  · exact .inl h'
  · exact .inr ⟨g, h1, h2, by simpa [World.setCell] using h3, h4.set⟩

theorem elD : ElemT Try.prog 25 31 2 16 := by
  refine ⟨Try.underlying25, ?_, by decide, by decide⟩
  have hI : (Try.prog.info? 31).map (fun i => (i.zero, i.size, i.bytes)) = some (some (.agg #[.int .i64 0, .int .i64 0]), 2, 16) := by kernel_rfl
  obtain ⟨i0, hi, hz0, hz1, hz2⟩ := info_parts hI
  exact ⟨i0, _, hi, hz0, hz1, hz2, rfl⟩
set_option maxHeartbeats 1000000 in
theorem szDs_any (n q : Nat) (p : Option Addr) (m : Int) (w : World) (h0 : 0 ≤ m) (hn : m ≤ 1048576) (hm : (n : Int) ≤ 9223372036854775807) :
    Calls Try.prog 40 #[.slice p n q, .int .i64 m] w fun e w' => e = .returned (.int .i64 (if (n : Int) ≤ m then m - n else -1)) ∧ w' = w := by
  by_cases hle : (n : Int) ≤ m
  · have hd : ¬ m - (n : Int) < 0 := by omega
    go_enter Try.func40, Try.ntmps40
    go_wp2
    go_ret
    exact ⟨rfl, rfl⟩
  · have hd : m - (n : Int) < 0 := by omega
    go_enter Try.func40, Try.ntmps40
    go_wp2
    go_ret
    exact ⟨rfl, rfl⟩
set_option maxHeartbeats 1000000 in
theorem szG_any (n q : Nat) (p : Option Addr) (e o a b c m : Int) (w : World) (h0 : 0 ≤ m) (hn : m ≤ 1048576) (hm : (n : Int) ≤ 9223372036854775807) :
    Calls Try.prog 20 #[.agg #[.int .i64 e, .int .i64 o, .int .i64 a, .int .i64 b, .int .i64 c, .slice p n q], .int .i64 m] w fun e w' => e = .returned (.int .i64 (if (n : Int) ≤ m then m - n else -1)) ∧ Below w.heap.size w w' := by
  go_enter Try.func20, Try.ntmps20
  go_wp2_with fail
  refine (szDs_any n q p m _ h0 hn hm).mono ?_
  rintro e w1 ⟨rfl, rfl⟩
  by_cases hle : (n : Int) ≤ m
  · have hd : ¬ m - (n : Int) < 0 := by omega
    rw [if_pos hle]
    go_wp2
    go_ret
    exact ⟨rfl, bel_alloc _ _⟩
  · rw [if_neg hle]
    go_wp2
    go_ret
    exact ⟨rfl, bel_alloc _ _⟩
set_option maxHeartbeats 400000 in
theorem toDot_any (x y : Int) (w : World) :
    Calls Try.prog 24 #[.agg #[.int .i64 x, .int .i64 y]] w fun e w' => e = .returned (.agg #[.int .i64 x, .int .i64 y]) ∧ Below w.heap.size w w' := by
  go_enter Try.func24, Try.ntmps24
  go_wp2
  refine bodyPost_ret (v := .agg #[.int .i64 x, .int .i64 y]) (by simp [results, Try.results24, go_sem]) rfl ⟨rfl, ?_⟩
  repeat (first | exact Below.refl _ _ | refine Below.drew ?_ | refine below_drewN ?_ _ | refine Below.alloc ?_ (by first | (simp; done) | (simp; omega)) _ | refine Below.setCell ?_ (by first | (simp; done) | (simp; omega)) _)
set_option maxHeartbeats 1000000 in
theorem toVv_any (a b c : Int) (w : World) :
    Calls Try.prog 46 #[.agg #[.int .i64 a, .int .i64 b, .int .i64 c]] w fun e w' => e = .returned (.agg #[.int .i64 a, .int .i64 b, .int .i64 c]) ∧ Below w.heap.size w w' := by
  go_enter Try.func46, Try.ntmps46
  go_wp2
  refine wp_loop_rounds 4 ?_
  repeat (rw [rounds_succ]; go_wp2)
  refine bodyPost_ret (v := .agg #[.int .i64 a, .int .i64 b, .int .i64 c]) (by simp [results, Try.results46, go_sem]) rfl ⟨rfl, ?_⟩
  repeat (first | exact Below.refl _ _ | refine Below.drew ?_ | refine below_drewN ?_ _ | refine Below.alloc ?_ (by first | (simp; done) | (simp; omega)) _ | refine Below.setCell ?_ (by first | (simp; done) | (simp; omega)) _)
set_option maxHeartbeats 1000000 in
theorem toDs_any (lo q : Nat) (p : Option Addr) (l : List Dt) (w : World) (hm : (l.length : Int) ≤ 1048576) (hr0 : GRow lo w p (flatD l)) :
    Calls Try.prog 47 #[.slice p l.length q] w fun e w' => e = .returned (.slice (some ⟨w.heap.size, 0, none⟩) l.length l.length) ∧ Below w.heap.size w w' ∧ MR w.heap.size w' (some ⟨w.heap.size, 0, none⟩) l := by
  have hr : Hid _ := hr0.d
  clear hr0
  obtain ⟨w0, hrun, hown, hgrow⟩ := run_make_full (P := Try.prog) w w.heap.size 25 31 ((Try.prog.info? 31).getD default) (.agg #[.int .i64 0, .int .i64 0]) 2 Try.underlying25 (by kernel_rfl) (by kernel_rfl) (by kernel_rfl) .i64 .i64 l.length
    (by have : ((Try.prog.info? 31).getD default).bytes = 16 := by kernel_rfl
        rw [this]; omega) (by unfold maxLen; omega) (Nat.le_refl _)
  have hT : Hid (There w0 w.heap.size (l.length * 2)) := made_there2 hown
  have hB : Hid (Below w.heap.size w w0) := (Below.refl _ _).grown hgrow (Nat.le_refl _) (fun k e => by cases e)
  have hlt : Hid (w.heap.size < w0.heap.size) := (hown.lt w.heap.size rfl).2
  clear hown hgrow
  go_enter Try.func47, Try.ntmps47
  go_wp2
  clear hrun
  go_loopw [4] (fun s4 wr => ∃ k : Nat, k ≤ l.length ∧ s4 = .int .i64 k ∧ Below w.heap.size w wr ∧ There wr w.heap.size (l.length * 2) ∧ (∀ i (h : i < l.length), i < k → DAt wr w.heap.size (i * 2) l[i]) ∧ w.heap.size < wr.heap.size) (fun s4 _ => l.length - (intOf s4).toNat)
  case atStart => exact ⟨0, by omega, rfl, hB.out, hT.out, fun i h h' => by omega, hlt.out⟩
  case round =>
    clear hT hB hlt
    obtain ⟨k, hk, rfl, hB0, hT0, hS0, hlt0⟩ := hrel
    have hB : Hid (Below w.heap.size w wr) := hB0
    have hT : Hid (There wr w.heap.size (l.length * 2)) := hT0
    have hS : Hid (∀ i (h : i < l.length), i < k → DAt wr w.heap.size (i * 2) l[i]) := hS0
    clear hB0 hT0 hS0
    by_cases hkl : k < l.length
    · have hkl' : (k : Int) < (l.length : Int) := by omega
      rcases hr.out with h' | ⟨b, off, rfl, _, h2⟩
      · rw [h'] at hkl; simp at hkl
      have hx := (h2 k (by omega)).next hB.out (cell_lt (x := ⟨b, off + k * 2, none⟩) (h2 k (by omega)).1)
      obtain ⟨x0, x1⟩ := hx
      go_wp2_with fail
      refine (toDot_any l[k].p l[k].n wr).mono ?_
      rintro e w1 ⟨rfl, hb⟩
      have hT1 : Hid (There w1 w.heap.size (l.length * 2)) := hT.out.next hb hlt0
      have hB1 : Hid (Below w.heap.size w w1) := hB.out.trans (hb.mono (by omega))
      have hS1 : Hid (∀ i (h : i < l.length), i < k → DAt w1 w.heap.size (i * 2) l[i]) := fun i h h' => (hS.out i h h').next hb hlt0
      have hlt1 : Hid (w.heap.size < w1.heap.size) := Nat.lt_of_lt_of_le hlt0 hb.size
      obtain ⟨v0, y0⟩ := Option.isSome_iff_exists.1 (hT1.out (k * 2) (by omega)).1
      obtain ⟨v1, y1⟩ := Option.isSome_iff_exists.1 (hT1.out (k * 2 + 1) (by omega)).1
      have z0 := (hT1.out (k * 2) (by omega)).2
      have z1 := (hT1.out (k * 2 + 1) (by omega)).2
      clear hb hT hB hS x0 x1 hlt0
      go_wp2_with fail
      go_roundw
      case rel =>
        refine ⟨k + 1, by omega, by go_num, hB1.out.setCell (Nat.le_refl _) _ |>.setCell (Nat.le_refl _) _, hT1.out.set.set, fun i h h' => ?_, by simpa [World.setCell] using hlt1.out⟩
        by_cases e : i = k
        · subst e; exact There.put2 hT1.out (by omega)
        · exact (hS1.out i h (by omega)).kept (by omega)
      case measure => simp [intOf]; omega
    · have hkl' : ¬ (k : Int) < (l.length : Int) := by omega
      go_wp2
      go_ret
      refine ⟨rfl, hB.out, ⟨.inr ⟨_, 0, rfl, Nat.le_refl _, d_row l 0 (fun i h => by simpa using hS.out i h (by omega))⟩, .inr ⟨_, rfl, Nat.le_refl _, hlt0, hT.out⟩⟩⟩
set_option maxHeartbeats 2000000 in
theorem toG_any (lo q : Nat) (p : Option Addr) (l : List Dt) (e o a b c : Int) (w : World) (hm : (l.length : Int) ≤ 1048576) (hr0 : GRow lo w p (flatD l)) :
    Calls Try.prog 22 #[.agg #[.int .i64 e, .int .i64 o, .int .i64 a, .int .i64 b, .int .i64 c, .slice p l.length q]] w fun r w' => ∃ g, r = .returned (.agg #[.int .i64 e, .int .i64 o, .int .i64 a, .int .i64 b, .int .i64 c, .slice (some ⟨g, 0, none⟩) l.length l.length]) ∧ Below w.heap.size w w' ∧ MR w.heap.size w' (some ⟨g, 0, none⟩) l := by
  have hr : Hid (GRow lo w p (flatD l)) := hr0
  clear hr0
  have X : Hid (∀ o1 o2 o3, Below w.heap.size w (((w.alloc o1).alloc o2).alloc o3)) := fun o1 o2 o3 => (((Below.refl _ _).alloc (Nat.le_refl _) _).alloc (by simp) _).alloc (by simp; omega) _
  go_enter Try.func22, Try.ntmps22
  go_upto_region 2 with fail
  refine wp_gen (fun W => Box W w.heap.size [.int .i64 e, .int .i64 o, .int .i64 a, .int .i64 b, .int .i64 c, .slice p l.length q] ∧ Box W (w.heap.size + 1) [.int .i64 0, .int .i64 0, .int .i64 0, .int .i64 0, .int .i64 0, .slice none 0 0] ∧ Box W (w.heap.size + 1 + 1) [.int .i64 0, .int .i64 0, .int .i64 0, .int .i64 0, .int .i64 0, .slice none 0 0] ∧ Below w.heap.size w W) ⟨box_mk.alloc.alloc, ?_, ?_, X.out _ _ _⟩ (fun W0 hI => ?_)
  · have := (box_mk (W := w.alloc (.cells #[.int .i64 e, .int .i64 o, .int .i64 a, .int .i64 b, .int .i64 c, .slice p l.length q] 44)) (t := 27) (vs := [.int .i64 0, .int .i64 0, .int .i64 0, .int .i64 0, .int .i64 0, .slice none 0 0])).alloc (ob := .cells #[.int .i64 0, .int .i64 0, .int .i64 0, .int .i64 0, .int .i64 0, .slice none 0 0] 27)
    simpa using this
  · have := box_mk (W := (w.alloc (.cells #[.int .i64 e, .int .i64 o, .int .i64 a, .int .i64 b, .int .i64 c, .slice p l.length q] 44)).alloc (.cells #[.int .i64 0, .int .i64 0, .int .i64 0, .int .i64 0, .int .i64 0, .slice none 0 0] 27)) (t := 27) (vs := [.int .i64 0, .int .i64 0, .int .i64 0, .int .i64 0, .int .i64 0, .slice none 0 0])
    simpa using this
  have Y : Hid _ := hI
  clear hI X
  obtain ⟨a0, a1, a2, a3, a4, a5⟩ := Y.out.1.c6
  obtain ⟨b0, b1, b2, b3, b4, b5⟩ := Y.out.2.2.1.c6
  obtain ⟨f0, f1, f2, f3, f4, f5⟩ := Y.out.2.2.1.f6
  go_upto_region 4 with fail
  have Y2 : Hid (Box ((W0.setCell ⟨w.heap.size + 1 + 1, 0, none⟩ (.int .i64 e)).setCell ⟨w.heap.size + 1 + 1, 1, none⟩ (.int .i64 o)) w.heap.size [.int .i64 e, .int .i64 o, .int .i64 a, .int .i64 b, .int .i64 c, .slice p l.length q] ∧ Box ((W0.setCell ⟨w.heap.size + 1 + 1, 0, none⟩ (.int .i64 e)).setCell ⟨w.heap.size + 1 + 1, 1, none⟩ (.int .i64 o)) (w.heap.size + 1) [.int .i64 0, .int .i64 0, .int .i64 0, .int .i64 0, .int .i64 0, .slice none 0 0] ∧ Box ((W0.setCell ⟨w.heap.size + 1 + 1, 0, none⟩ (.int .i64 e)).setCell ⟨w.heap.size + 1 + 1, 1, none⟩ (.int .i64 o)) (w.heap.size + 1 + 1) [.int .i64 e, .int .i64 o, .int .i64 0, .int .i64 0, .int .i64 0, .slice none 0 0] ∧ Below w.heap.size w ((W0.setCell ⟨w.heap.size + 1 + 1, 0, none⟩ (.int .i64 e)).setCell ⟨w.heap.size + 1 + 1, 1, none⟩ (.int .i64 o))) := by
    refine ⟨(Y.out.1.oth (by omega)).oth (by omega), (Y.out.2.1.oth (by omega)).oth (by omega), ?_, bel_in (bel_in Y.out.2.2.2 (by omega)) (by omega)⟩
    have := (Y.out.2.2.1.set (i := 0) (u := .int .i64 e) (by simp)).set (i := 1) (u := .int .i64 o) (by simp)
    simpa using this
  clear a0 a1 a2 a3 a4 a5 b0 b1 b2 b3 b4 b5 f0 f1 f2 f3 f4 f5 Y
  generalize ((W0.setCell ⟨w.heap.size + 1 + 1, 0, none⟩ (.int .i64 e)).setCell ⟨w.heap.size + 1 + 1, 1, none⟩ (.int .i64 o)) = W1 at *
  obtain ⟨a0, a1, a2, a3, a4, a5⟩ := Y2.out.1.c6
  go_wp2_with fail
  refine (toVv_any a b c _).mono ?_
  rintro e1 W2 ⟨rfl, hb⟩
  have Y3 : Hid (Box W2 w.heap.size [.int .i64 e, .int .i64 o, .int .i64 a, .int .i64 b, .int .i64 c, .slice p l.length q] ∧ Box W2 (w.heap.size + 1) [.int .i64 0, .int .i64 0, .int .i64 0, .int .i64 0, .int .i64 0, .slice none 0 0] ∧ Box W2 (w.heap.size + 1 + 1) [.int .i64 e, .int .i64 o, .int .i64 0, .int .i64 0, .int .i64 0, .slice none 0 0] ∧ Below w.heap.size w W2) := ⟨Y2.out.1.next hb, Y2.out.2.1.next hb, Y2.out.2.2.1.next hb, Y2.out.2.2.2.trans (hb.mono Y2.out.2.2.2.size)⟩
  clear a0 a1 a2 a3 a4 a5 hb Y2
  obtain ⟨a0, a1, a2, a3, a4, a5⟩ := Y3.out.1.c6
  obtain ⟨b0, b1, b2, b3, b4, b5⟩ := Y3.out.2.2.1.c6
  obtain ⟨f0, f1, f2, f3, f4, f5⟩ := Y3.out.2.2.1.f6
  go_upto_region 5 with fail
  have Y4 : Hid (Box (((W2.setCell ⟨w.heap.size + 1 + 1, 2, none⟩ (.int .i64 a)).setCell ⟨w.heap.size + 1 + 1, 3, none⟩ (.int .i64 b)).setCell ⟨w.heap.size + 1 + 1, 4, none⟩ (.int .i64 c)) w.heap.size [.int .i64 e, .int .i64 o, .int .i64 a, .int .i64 b, .int .i64 c, .slice p l.length q] ∧ Box (((W2.setCell ⟨w.heap.size + 1 + 1, 2, none⟩ (.int .i64 a)).setCell ⟨w.heap.size + 1 + 1, 3, none⟩ (.int .i64 b)).setCell ⟨w.heap.size + 1 + 1, 4, none⟩ (.int .i64 c)) (w.heap.size + 1) [.int .i64 0, .int .i64 0, .int .i64 0, .int .i64 0, .int .i64 0, .slice none 0 0] ∧ Box (((W2.setCell ⟨w.heap.size + 1 + 1, 2, none⟩ (.int .i64 a)).setCell ⟨w.heap.size + 1 + 1, 3, none⟩ (.int .i64 b)).setCell ⟨w.heap.size + 1 + 1, 4, none⟩ (.int .i64 c)) (w.heap.size + 1 + 1) [.int .i64 e, .int .i64 o, .int .i64 a, .int .i64 b, .int .i64 c, .slice none 0 0] ∧ Below w.heap.size w (((W2.setCell ⟨w.heap.size + 1 + 1, 2, none⟩ (.int .i64 a)).setCell ⟨w.heap.size + 1 + 1, 3, none⟩ (.int .i64 b)).setCell ⟨w.heap.size + 1 + 1, 4, none⟩ (.int .i64 c))) := by
    refine ⟨((Y3.out.1.oth (by omega)).oth (by omega)).oth (by omega), ((Y3.out.2.1.oth (by omega)).oth (by omega)).oth (by omega), ?_, bel_in (bel_in (bel_in Y3.out.2.2.2 (by omega)) (by omega)) (by omega)⟩
    have := ((Y3.out.2.2.1.set (i := 2) (u := .int .i64 a) (by simp)).set (i := 3) (u := .int .i64 b) (by simp)).set (i := 4) (u := .int .i64 c) (by simp)
    simpa using this
  clear a0 a1 a2 a3 a4 a5 b0 b1 b2 b3 b4 b5 f0 f1 f2 f3 f4 f5 Y3
  generalize (((W2.setCell ⟨w.heap.size + 1 + 1, 2, none⟩ (.int .i64 a)).setCell ⟨w.heap.size + 1 + 1, 3, none⟩ (.int .i64 b)).setCell ⟨w.heap.size + 1 + 1, 4, none⟩ (.int .i64 c)) = W3 at *
  obtain ⟨a0, a1, a2, a3, a4, a5⟩ := Y4.out.1.c6
  go_wp2_with fail
  refine (toDs_any lo q p l _ hm (hr.out.next Y4.out.2.2.2)).mono ?_
  rintro e1 W4 ⟨rfl, hb, hM⟩
  have Y5 : Hid (Box W4 (w.heap.size + 1) [.int .i64 0, .int .i64 0, .int .i64 0, .int .i64 0, .int .i64 0, .slice none 0 0] ∧ Box W4 (w.heap.size + 1 + 1) [.int .i64 e, .int .i64 o, .int .i64 a, .int .i64 b, .int .i64 c, .slice none 0 0] ∧ Below w.heap.size w W4 ∧ MR W3.heap.size W4 (some ⟨W3.heap.size, 0, none⟩) l ∧ w.heap.size + 1 + 1 < W3.heap.size) := ⟨Y4.out.2.1.next hb, Y4.out.2.2.1.next hb, Y4.out.2.2.2.trans (hb.mono Y4.out.2.2.2.size), hM, Y4.out.2.2.1.lt⟩
  clear a0 a1 a2 a3 a4 a5 hb Y4 hM
  generalize W3.heap.size = g at *
  obtain ⟨b0, b1, b2, b3, b4, b5⟩ := Y5.out.2.1.c6
  obtain ⟨f0, f1, f2, f3, f4, f5⟩ := Y5.out.2.1.f6
  go_upto_region 6 with fail
  have Y6 : Hid (Box (W4.setCell ⟨w.heap.size + 1 + 1, 5, none⟩ (.slice (some ⟨g, 0, none⟩) l.length l.length)) (w.heap.size + 1) [.int .i64 0, .int .i64 0, .int .i64 0, .int .i64 0, .int .i64 0, .slice none 0 0] ∧ Box (W4.setCell ⟨w.heap.size + 1 + 1, 5, none⟩ (.slice (some ⟨g, 0, none⟩) l.length l.length)) (w.heap.size + 1 + 1) [.int .i64 e, .int .i64 o, .int .i64 a, .int .i64 b, .int .i64 c, .slice (some ⟨g, 0, none⟩) l.length l.length] ∧ Below w.heap.size w (W4.setCell ⟨w.heap.size + 1 + 1, 5, none⟩ (.slice (some ⟨g, 0, none⟩) l.length l.length)) ∧ MR g (W4.setCell ⟨w.heap.size + 1 + 1, 5, none⟩ (.slice (some ⟨g, 0, none⟩) l.length l.length)) (some ⟨g, 0, none⟩) l) := by
    have hlt := Y5.out.2.2.2.2
    refine ⟨Y5.out.1.oth (by omega), ?_, bel_in Y5.out.2.2.1 (by omega), Y5.out.2.2.2.1.set (by omega)⟩
    have := (Y5.out.2.1.set (i := 5) (u := .slice (some ⟨g, 0, none⟩) l.length l.length) (by simp))
    simpa using this
  have hlt : Hid (w.heap.size + 1 + 1 < g) := Y5.out.2.2.2.2
  clear b0 b1 b2 b3 b4 b5 f0 f1 f2 f3 f4 f5 Y5
  generalize (W4.setCell ⟨w.heap.size + 1 + 1, 5, none⟩ (.slice (some ⟨g, 0, none⟩) l.length l.length)) = W5 at *
  obtain ⟨b0, b1, b2, b3, b4, b5⟩ := Y6.out.2.1.c6
  obtain ⟨c0, c1, c2, c3, c4, c5⟩ := Y6.out.1.c6
  obtain ⟨f0, f1, f2, f3, f4, f5⟩ := Y6.out.1.f6
  go_wp2_with fail
  have Z := Y6.out.1.s6 (u0 := .int .i64 e) (u1 := .int .i64 o) (u2 := .int .i64 a) (u3 := .int .i64 b) (u4 := .int .i64 c) (u5 := .slice (some ⟨g, 0, none⟩) l.length l.length)
  obtain ⟨z0, z1, z2, z3, z4, z5⟩ := Z.c6
  clear b0 b1 b2 b3 b4 b5 f0 f1 f2 f3 f4 f5 c0 c1 c2 c3 c4 c5 Z
  refine bodyPost_ret (v := .agg #[.int .i64 e, .int .i64 o, .int .i64 a, .int .i64 b, .int .i64 c, .slice (some ⟨g, 0, none⟩) l.length l.length]) (by simp [results, Try.results22, go_sem, z0, z1, z2, z3, z4, z5]) rfl ⟨g, rfl, ?_, ?_⟩
  · exact bel_in (bel_in (bel_in (bel_in (bel_in (bel_in Y6.out.2.2.1 (by omega)) (by omega)) (by omega)) (by omega)) (by omega)) (by omega)
  · have := hlt.out
    exact ((((((Y6.out.2.2.2.set (by omega)).set (by omega)).set (by omega)).set (by omega)).set (by omega)).set (by omega)).weak (by omega)
end Go.Proofs.Ytklajcdlacemaaa

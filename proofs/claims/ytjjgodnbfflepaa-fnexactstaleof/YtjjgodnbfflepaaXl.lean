/- Lists of objects, as the laws hand them over. -/
import Derived.Test.YtjjgodnbfflepaaRows
import Derived.WalkKit
import Derived.WalkSpells
import Derived.WalkLawsBesides
import Derived.Deep.QuietTactic
import Derived.BigQuiet
import Derived.Deep.RegionHeld3
import Derived.Test.YtjjgodnbfflepaaMg
import Derived.Test.YtjjgodnbfflepaaMh
import Derived.Test.YtjjgodnbfflepaaZb
import Derived.LoopN
namespace Go.Proofs.Ytjjgodnbfflepaa
open Go.RowKit
set_option linter.unusedSimpArgs false
set_option linter.unusedVariables false

/-- A list of objects that came in. -/
structure ARow (W : World) (ao : Option Addr) (os : List Ov) : Prop where
  cells : os = [] ∨ ∃ b off, ao = some ⟨b, off, none⟩ ∧ ∀ i (h : i < os.length), ObAt W b (off + i * 4) os[i]
  rows : ∀ x ∈ os, SibRow W x.ao x.l
theorem ARow.next {W W' : World} {ao : Option Addr} {os : List Ov} (h : ARow W ao os) (hb : Below W.heap.size W W') : ARow W' ao os := by
  refine ⟨?_, fun x hx => (h.rows x hx).next hb⟩
  rcases h.cells with h' | ⟨b, off, rfl, h2⟩
  · exact .inl h'
  · exact .inr ⟨b, off, rfl, fun i hi => (h2 i hi).next hb⟩
theorem ARow.at {W : World} {ao : Option Addr} {os : List Ov} (h : ARow W ao os) (i : Nat) (hi : i < os.length) : ∃ b off, ao = some ⟨b, off, none⟩ ∧ ObAt W b (off + i * 4) os[i] ∧ SibRow W os[i].ao os[i].l := by
  rcases h.cells with h' | ⟨b, off, rfl, h2⟩
  · rw [h'] at hi; simp at hi
  · exact ⟨b, off, rfl, h2 i hi, h.rows _ (List.getElem_mem _)⟩
def tot : List Ov → Nat
  | [] => 0
  | x :: os => x.l.length + tot os
theorem tot_app (a b : List Ov) : tot (a ++ b) = tot a + tot b := by
  induction a with
  | nil => simp [tot]
  | cons x a ih => simp [tot, ih]; omega
theorem tot_take {os : List Ov} {k : Nat} (h : k < os.length) : tot (os.take (k + 1)) = tot (os.take k) + os[k].l.length := by
  rw [List.take_succ_eq_append_getElem h, tot_app]
  simp [tot]
theorem tot_le (os : List Ov) (k : Nat) : tot (os.take k) ≤ tot os := by
  have := tot_app (os.take k) (os.drop k)
  rw [List.take_append_drop] at this
  omega
theorem tot_mem {os : List Ov} {x : Ov} (h : x ∈ os) : x.l.length ≤ tot os := by
  induction os with
  | nil => simp at h
  | cons y os ih =>
    rcases List.mem_cons.1 h with rfl | h
    · simp [tot]
    · have := ih h; simp [tot]; omega
def Lens (os : List Ov) : Prop := ∀ x ∈ os, (x.l.length : Int) ≤ 9223372036854775807
set_option maxHeartbeats 2000000 in
theorem szObjS_any (cap : Nat) (ao : Option Addr) (os : List Ov) (w : World) (hn : (os.length : Int) ≤ 9223372036854775807) (hL0 : Lens os) (hr0 : ARow w ao os) :
    Calls Try.prog 5 #[.slice ao os.length cap, .int .i64 1048576] w fun e w' => ∃ k : Int, e = .returned (.int .i64 k) ∧ Below w.heap.size w w' ∧ (¬ k < 0 → os.length + tot os ≤ 1048576) := by
  have HR : Hid (ARow w ao os) := hr0
  have HL : Hid (Lens os) := hL0
  clear hr0 hL0
  by_cases h1 : 1048576 < os.length
  · have q1 : IntKind.i64.wrap (1048576 - (os.length : Int)) = 1048576 - (os.length : Int) := by rw [IntKind.wrap_i64]; omega
    have q2 : (1048576 : Int) - (os.length : Int) < 0 := by omega
    clear HR HL
    go_enter Try.func5, Try.ntmps5
    go_wp2
    go_ret
    exact ⟨-1, rfl, Below.refl _ _, (fun h => by omega)⟩
  have q1 : IntKind.i64.wrap (1048576 - (os.length : Int)) = 1048576 - (os.length : Int) := by rw [IntKind.wrap_i64]; omega
  have q2 : ¬ (1048576 : Int) - (os.length : Int) < 0 := by omega
  go_enter Try.func5, Try.ntmps5
  go_wp2
  go_loopw [1, 5] (fun s1 s5 wr => ∃ i n : Nat, i ≤ os.length ∧ s5 = .int .i64 i ∧ s1 = .int .i64 (n : Int) ∧ Hid (n + os.length + tot (os.take i) = 1048576) ∧ Below w.heap.size w wr) (fun _ s5 _ => os.length - (intOf s5).toNat)
  case atStart => exact ⟨0, 1048576 - os.length, by omega, rfl, by congr 1; omega, by show _ = _; simp [tot]; omega, Below.refl _ _⟩
  case round =>
    obtain ⟨i, n, hi, rfl, rfl, HE, hB0⟩ := hrel
    have HB : Hid (Below w.heap.size w wr) := hB0
    clear hB0
    by_cases hlt : i < os.length
    · have hlt' : (i : Int) < (os.length : Int) := by omega
      have kk : (0 : Int) ≤ (i : Int) := by omega
      obtain ⟨b, off, rfl, ⟨x0, x1, x2, x3⟩, hrx⟩ := (HR.out.next HB.out).at i hlt
      have hxl : (os[i].l.length : Int) ≤ 9223372036854775807 := HL.out _ (List.getElem_mem _)
      have HT : Hid (tot (os.take (i + 1)) = tot (os.take i) + os[i].l.length) := tot_take hlt
      have hn1 : n ≤ 1048576 := by have := HE.out; omega
      generalize os[i] = x at *
      clear hrx
      go_wp2_with fail
      refine (szObj_any x.cap x.ao x.l x.a x.b x.c (n : Int) _ (by omega) (by omega) hxl).mono ?_
      rintro e w1 ⟨rfl, hb⟩
      replace HB := bel_next HB hb
      clear hb x0 x1 x2 x3
      by_cases hle : x.l.length ≤ n
      · have hif : (if (x.l.length : Int) ≤ (n : Int) then (n : Int) - (x.l.length : Int) else -1) = ((n - x.l.length : Nat) : Int) := by rw [if_pos (by omega)]; omega
        rw [hif]
        have q3 : ¬ ((n - x.l.length : Nat) : Int) < 0 := by omega
        have HE2 : Hid ((n - x.l.length) + os.length + tot (os.take (i + 1)) = 1048576) := by show _ = _; rw [HT.out]; have := HE.out; omega
        generalize n - x.l.length = n2 at *
        clear hif HE HT
        go_wp2
        go_roundw
        case rel => first | exact ⟨i + 1, n2, by omega, by go_num, rfl, HE2, HB.out⟩ | ((repeat apply Exists.intro); exact ⟨⟨i + 1, n2, by omega, by go_num, rfl, HE2, HB.out⟩, rfl⟩)
        case measure => simp [intOf]; omega
      · have hif : (if (x.l.length : Int) ≤ (n : Int) then (n : Int) - (x.l.length : Int) else -1) = -1 := if_neg (by omega)
        rw [hif]
        clear hif HE HT
        go_wp2
        go_ret
        exact ⟨-1, rfl, HB.out, (fun h => by omega)⟩
    · have hlt' : ¬ (i : Int) < (os.length : Int) := by omega
      have HF : Hid (os.length + tot os ≤ 1048576) := by have := HE.out; rw [List.take_of_length_le (by omega)] at this; show _ ≤ _; omega
      clear HE
      go_wp2
      go_ret
      exact ⟨_, rfl, HB.out, (fun _ => HF.out)⟩
/-- A copy of an object: its siblings lie in a block of their own. -/
def cpO (x : Ov) (g : Nat) : Ov := { ao := some ⟨g, 0, none⟩, l := x.l, cap := x.l.length, a := x.a, b := x.b, c := x.c }
def cpL (os : List Ov) (gs : Nat → Nat) : List Ov := os.mapIdx fun i x => cpO x (gs i)
theorem cpL_len (os : List Ov) (gs : Nat → Nat) : (cpL os gs).length = os.length := by simp [cpL]
theorem cpL_at (os : List Ov) (gs : Nat → Nat) (i : Nat) (h : i < (cpL os gs).length) : (cpL os gs)[i] = cpO (os[i]'(by simpa [cpL] using h)) (gs i) := by simp [cpL]
/-- The first k objects of a list are copied into the block g. -/
structure XR (w wr : World) (g : Nat) (os : List Ov) (gs : Nat → Nat) (k : Nat) : Prop where
  bel : Below w.heap.size w wr
  ge : w.heap.size ≤ g
  lt : g < wr.heap.size
  th : There wr g (os.length * 4)
  ob : ∀ i (h : i < os.length), i < k → ObAt wr g (i * 4) (cpO os[i] (gs i))
  row : ∀ i (h : i < os.length), i < k → (∀ j (h' : j < os[i].l.length), SibAt wr (gs i) (j * 4) os[i].l[j]) ∧ There wr (gs i) (os[i].l.length * 4) ∧ g < gs i ∧ gs i < wr.heap.size
  mono : ∀ i j, i < k → j < i → gs j < gs i
theorem XR.next {w wr w1 : World} {g : Nat} {os : List Ov} {gs : Nat → Nat} {k : Nat} (h : XR w wr g os gs k) (hb : Below wr.heap.size wr w1) : XR w w1 g os gs k :=
  ⟨h.bel.trans (hb.mono h.bel.size), h.ge, Nat.lt_of_lt_of_le h.lt hb.size, h.th.next hb h.lt, fun i hi hk => (h.ob i hi hk).next hb, fun i hi hk => ⟨fun j hj => ((h.row i hi hk).1 j hj).next hb (h.row i hi hk).2.2.2, (h.row i hi hk).2.1.next hb (h.row i hi hk).2.2.2, (h.row i hi hk).2.2.1, Nat.lt_of_lt_of_le (h.row i hi hk).2.2.2 hb.size⟩, h.mono⟩
theorem sib_oth {W : World} {p q o i : Nat} {u : Value} {x : Sib} (h : SibAt W p o x) (hne : p ≠ q) : SibAt (W.setCell ⟨q, i, none⟩ u) p o x := ⟨cell_set h.1 hne, cell_set h.2.1 hne, cell_set h.2.2.1 hne, cell_set h.2.2.2 hne⟩
theorem ob_put {W : World} {g k n g1 : Nat} {x : Ov} (hT : There W g (n * 4)) (hk : k < n) : ObAt ((((W.setCell ⟨g, k * 4, none⟩ (.slice (some ⟨g1, 0, none⟩) x.l.length x.l.length)).setCell ⟨g, k * 4 + 1, none⟩ (.int .i64 x.a)).setCell ⟨g, k * 4 + 2, none⟩ (.int .i64 x.b)).setCell ⟨g, k * 4 + 3, none⟩ (.int .i64 x.c)) g (k * 4) (cpO x g1) := by
  obtain ⟨u0, y0⟩ := Option.isSome_iff_exists.1 (hT (k * 4) (by omega)).1
  obtain ⟨u1, y1⟩ := Option.isSome_iff_exists.1 (hT (k * 4 + 1) (by omega)).1
  obtain ⟨u2, y2⟩ := Option.isSome_iff_exists.1 (hT (k * 4 + 2) (by omega)).1
  obtain ⟨u3, y3⟩ := Option.isSome_iff_exists.1 (hT (k * 4 + 3) (by omega)).1
  refine ⟨?_, ?_, ?_, ?_⟩
  · exact cell_oth (cell_oth (cell_oth (cell_same y0) (by omega)) (by omega)) (by omega)
  · exact cell_oth (cell_oth (cell_same (cell_oth y1 (by omega))) (by omega)) (by omega)
  · exact cell_oth (cell_same (cell_oth (cell_oth y2 (by omega)) (by omega))) (by omega)
  · exact cell_same (cell_oth (cell_oth (cell_oth y3 (by omega)) (by omega)) (by omega))
theorem XR.store {w wr : World} {g g1 : Nat} {os : List Ov} {gs : Nat → Nat} {k : Nat} (h : XR w wr g os gs k) (hk : k < os.length) (hS : ∀ j (h' : j < os[k].l.length), SibAt wr g1 (j * 4) os[k].l[j]) (hT : There wr g1 (os[k].l.length * 4)) (hg : g < g1) (hl : g1 < wr.heap.size) (hmo : ∀ j, j < k → gs j < g1) :
    XR w ((((wr.setCell ⟨g, k * 4, none⟩ (.slice (some ⟨g1, 0, none⟩) os[k].l.length os[k].l.length)).setCell ⟨g, k * 4 + 1, none⟩ (.int .i64 os[k].a)).setCell ⟨g, k * 4 + 2, none⟩ (.int .i64 os[k].b)).setCell ⟨g, k * 4 + 3, none⟩ (.int .i64 os[k].c)) g os (fun i => if i = k then g1 else gs i) (k + 1) := by
  refine ⟨((h.bel.setCell h.ge _).setCell h.ge _ |>.setCell h.ge _).setCell h.ge _, h.ge, by simpa [World.setCell] using h.lt, h.th.set.set.set.set, fun i hi hik => ?_, fun i hi hik => ?_, fun i j hi hj => ?_⟩
  · by_cases e : i = k
    · subst e
      simp only [if_true]
      exact ob_put h.th hi
    · rw [if_neg e]
      exact ((((h.ob i hi (by omega)).off (by omega)).off (by omega)).off (by omega)).off (by omega)
  · by_cases e : i = k
    · subst e
      simp only [if_true]
      exact ⟨fun j hj => sib_oth (sib_oth (sib_oth (sib_oth (hS j hj) (by omega)) (by omega)) (by omega)) (by omega), hT.set.set.set.set, hg, by simpa [World.setCell] using hl⟩
    · rw [if_neg e]
      have hr := h.row i hi (by omega)
      have := hr.2.2.1
      exact ⟨fun j hj => sib_oth (sib_oth (sib_oth (sib_oth (hr.1 j hj) (by omega)) (by omega)) (by omega)) (by omega), hr.2.1.set.set.set.set, hr.2.2.1, by simpa [World.setCell] using hr.2.2.2⟩
  · have hjk : j ≠ k := by omega
    by_cases e : i = k
    · subst e
      simp only [if_true, if_neg hjk]
      exact hmo j hj
    · simp only [if_neg e, if_neg hjk]
      exact h.mono i j (by omega) hj
theorem XR.orow {w wr : World} {g : Nat} {os : List Ov} {gs : Nat → Nat} (h : XR w wr g os gs os.length) : ORow wr (some ⟨g, 0, none⟩) (cpL os gs) := by
  refine ⟨.inr ⟨g, 0, rfl, fun i hi => ?_⟩, fun x hx => ?_⟩
  · have hi' : i < os.length := by simpa [cpL] using hi
    rw [cpL_at, Nat.zero_add]
    exact h.ob i hi' hi'
  · obtain ⟨i, hi, rfl⟩ := List.getElem_of_mem hx
    have hi' : i < os.length := by simpa [cpL] using hi
    rw [cpL_at]
    exact ⟨.inr ⟨gs i, 0, rfl, fun j hj => by rw [Nat.zero_add]; exact (h.row i hi' hi').1 j hj⟩, Nat.le_refl _⟩
/-- What toObjS leaves. -/
def ToP (os : List Ov) (w : World) (e : Ending) (w' : World) : Prop := ∃ g gs, e = .returned (.slice (some ⟨g, 0, none⟩) os.length os.length) ∧ XR w w' g os gs os.length
set_option maxHeartbeats 2000000 in
theorem toObjS_any (cap : Nat) (ao : Option Addr) (os : List Ov) (w : World) (hm : os.length + tot os ≤ 1048576) (hr0 : ARow w ao os) :
    Calls Try.prog 7 #[.slice ao os.length cap] w (ToP os w) := by
  have HR : Hid (ARow w ao os) := hr0
  have hm1 : (os.length : Int) ≤ 1048576 := by omega
  have HM : Hid (os.length + tot os ≤ 1048576) := hm
  clear hr0 hm
  obtain ⟨w0, hrun, hown, hgrow⟩ := run_make_full (P := Try.prog) w w.heap.size 31 28 ((Try.prog.info? 28).getD default) (.agg #[.slice none 0 0, .int .i64 0, .int .i64 0, .int .i64 0]) 4 Try.underlying31 (by kernel_rfl) (by kernel_rfl) (by kernel_rfl) .i64 .i64 os.length
    (by have : ((Try.prog.info? 28).getD default).bytes = 48 := by kernel_rfl
        rw [this]; omega) (by unfold maxLen; omega) (Nat.le_refl _)
  have hT : There w0 w.heap.size (os.length * 4) := made_there hown
  have hB : Below w.heap.size w w0 := (Below.refl _ _).grown hgrow (Nat.le_refl _) (fun k e => by cases e)
  have hlt : w.heap.size < w0.heap.size := by
    obtain ⟨_, h2⟩ := hown
    rcases h2 with ⟨h2, _⟩ | ⟨g', cp, cur, h2, h3, h4, _⟩
    · cases h2
    · cases h2
      rcases Nat.lt_or_ge w.heap.size w0.heap.size with h' | h'
      · exact h'
      · rw [Array.getElem?_eq_none h'] at h4; cases h4
  have X0 : Hid (XR w w0 w.heap.size os (fun _ => 0) 0) := ⟨hB, Nat.le_refl _, hlt, hT, fun i hi hk => by omega, fun i hi hk => by omega, fun i j hi hj => by omega⟩
  clear hown hgrow hT hB hlt
  go_enter Try.func7, Try.ntmps7
  go_wp2
  clear hrun
  go_loopw [4] (fun s4 wr => ∃ (k : Nat) (gs : Nat → Nat), k ≤ os.length ∧ s4 = .int .i64 k ∧ XR w wr w.heap.size os gs k) (fun s4 _ => os.length - (intOf s4).toNat)
  case atStart => exact ⟨0, _, by omega, rfl, X0.out⟩
  case round =>
    clear X0
    obtain ⟨k, gs, hk, rfl, hX0⟩ := hrel
    have HX : Hid (XR w wr w.heap.size os gs k) := hX0
    clear hX0
    by_cases hlt : k < os.length
    · have hlt' : (k : Int) < (os.length : Int) := by omega
      have kk : (0 : Int) ≤ (k : Int) := by omega
      obtain ⟨b, off, rfl, ⟨x0, x1, x2, x3⟩, hrx⟩ := (HR.out.next HX.out.bel).at k hlt
      have hxl : (os[k].l.length : Int) ≤ 1048576 := by have := tot_mem (List.getElem_mem hlt); have := HM.out; omega
      have HRX : Hid (SibRow wr os[k].ao os[k].l) := hrx
      clear hrx
      go_wp2_with fail
      refine (toObj_any os[k].cap os[k].ao os[k].l os[k].a os[k].b os[k].c _ hxl HRX.out).mono ?_
      rintro e w1 ⟨g1, rfl, hb, hg, hG, hT1, hS1⟩
      have HX1 : Hid (XR w w1 w.heap.size os gs k) := HX.out.next hb
      have HX2 : Hid _ := HX1.out.store hlt hS1 hT1 (Nat.lt_of_lt_of_le HX.out.lt hg) hG (fun j hj => Nat.lt_of_lt_of_le (HX.out.row j (by omega) hj).2.2.2 hg)
      obtain ⟨v0, y0⟩ := Option.isSome_iff_exists.1 (HX1.out.th (k * 4) (by omega)).1
      obtain ⟨v1, y1⟩ := Option.isSome_iff_exists.1 (HX1.out.th (k * 4 + 1) (by omega)).1
      obtain ⟨v2, y2⟩ := Option.isSome_iff_exists.1 (HX1.out.th (k * 4 + 2) (by omega)).1
      obtain ⟨v3, y3⟩ := Option.isSome_iff_exists.1 (HX1.out.th (k * 4 + 3) (by omega)).1
      have z0 := (HX1.out.th (k * 4) (by omega)).2
      have z1 := (HX1.out.th (k * 4 + 1) (by omega)).2
      have z2 := (HX1.out.th (k * 4 + 2) (by omega)).2
      have z3 := (HX1.out.th (k * 4 + 3) (by omega)).2
      clear hb hg hG hT1 hS1 x0 x1 x2 x3 HRX HX HX1
      go_wp2_with fail
      go_roundw
      case rel => exact ⟨k + 1, _, by omega, by go_num, HX2.out⟩
      case measure => simp [intOf]; omega
    · have hlt' : ¬ (k : Int) < (os.length : Int) := by omega
      have hkn : k = os.length := by omega
      have HX1 : Hid (XR w wr w.heap.size os gs os.length) := hkn ▸ HX.out
      clear HX hkn
      go_wp2
      go_ret
      exact ⟨_, gs, rfl, HX1.out⟩

set_option maxHeartbeats 4000000 in
theorem eqObjS_same (g g' : Nat) (os : List Ov) (gs gs' : Nat → Nat) (w0 w1 W : World) (hm : os.length + tot os ≤ 1048576) (hx : XR w0 W g os gs os.length) (hy : XR w1 W g' os gs' os.length) :
    Calls Try.prog 10 #[.slice (some ⟨g, 0, none⟩) os.length os.length, .slice (some ⟨g', 0, none⟩) os.length os.length] W fun e w' => e = .returned (.bool true) ∧ Below W.heap.size W w' := by
  have HX : Hid (XR w0 W g os gs os.length) := hx
  have HY : Hid (XR w1 W g' os gs' os.length) := hy
  have hm1 : (os.length : Int) ≤ 1048576 := by omega
  have HM : Hid (os.length + tot os ≤ 1048576) := hm
  clear hx hy hm
  go_enter Try.func10, Try.ntmps10
  go_wp2
  go_loopw [5] (fun s5 wr => ∃ k : Nat, k ≤ os.length ∧ s5 = .int .i64 k ∧ Below W.heap.size W wr) (fun s5 _ => os.length - (intOf s5).toNat)
  case atStart => exact ⟨0, by omega, rfl, Below.refl _ _⟩
  case round =>
    obtain ⟨k, hk, rfl, hB0⟩ := hrel
    have HB : Hid (Below W.heap.size W wr) := hB0
    clear hB0
    by_cases hlt : k < os.length
    · have hlt' : (k : Int) < (os.length : Int) := by omega
      have kk : (0 : Int) ≤ (k : Int) := by omega
      have hxl : (os[k].l.length : Int) ≤ 1048576 := by have := tot_mem (List.getElem_mem hlt); have := HM.out; omega
      have hO1 := HX.out.ob k hlt hlt
      have hO2 := HY.out.ob k hlt hlt
      have HS1 : Hid (SibRow W (some ⟨gs k, 0, none⟩) os[k].l) := .inr ⟨gs k, 0, rfl, fun j hj => by rw [Nat.zero_add]; exact (HX.out.row k hlt hlt).1 j hj⟩
      have HS2 : Hid (SibRow W (some ⟨gs' k, 0, none⟩) os[k].l) := .inr ⟨gs' k, 0, rfl, fun j hj => by rw [Nat.zero_add]; exact (HY.out.row k hlt hlt).1 j hj⟩
      have H1 : Hid (ObAt wr g (k * 4) (cpO os[k] (gs k))) := hO1.next HB.out
      have H2 : Hid (ObAt wr g' (k * 4) (cpO os[k] (gs' k))) := hO2.next HB.out
      generalize os[k] = x at *
      generalize gs k = gk at *
      generalize gs' k = gk' at *
      clear hO1 hO2
      go_wp2_with fail
      refine wp_region_held_drew (S := (fun w' => (w'.cell? ⟨g, k * 4, none⟩ = some (.slice (some ⟨gk, 0, none⟩) x.l.length x.l.length) ∧ w'.cell? ⟨g, k * 4 + 1, none⟩ = some (.int .i64 x.a) ∧ w'.cell? ⟨g, k * 4 + 2, none⟩ = some (.int .i64 x.b) ∧ w'.cell? ⟨g, k * 4 + 3, none⟩ = some (.int .i64 x.c)) ∧ (w'.cell? ⟨g', k * 4, none⟩ = some (.slice (some ⟨gk', 0, none⟩) x.l.length x.l.length) ∧ w'.cell? ⟨g', k * 4 + 1, none⟩ = some (.int .i64 x.a) ∧ w'.cell? ⟨g', k * 4 + 2, none⟩ = some (.int .i64 x.b) ∧ w'.cell? ⟨g', k * 4 + 3, none⟩ = some (.int .i64 x.c)) ∧ Below W.heap.size W w')) (by kernel_rfl) ?_ (fun hHeld => ?_)
      · (try dsimp only)
        exact ⟨H1.out.next (bel_drew _), H2.out.next (bel_drew _), HB.out.trans ((bel_drew _).mono HB.out.size)⟩
      refine wpAnyH_take (i := 0) (v := ?_) rfl (by kernel_rfl) (by kernel_rfl) (by kernel_rfl) (fun _ _ _ h => h) (Or.inl ⟨by rfl, ?_⟩) (by assumption) ?_
      rotate_left
      · intro w' hSw
        (try dsimp only at hSw)
        go_simp
        all_goals (try with_reducible rfl)
      (try simp only [Act.put, List.getElem_toArray, List.getElem_cons_zero, List.getElem_cons_succ, List.setIfInBounds_toArray, List.set_cons_zero, List.set_cons_succ])
      refine wpAnyH_take (i := 1) (v := ?_) rfl (by kernel_rfl) (by kernel_rfl) (by kernel_rfl) (fun _ _ _ h => h) (Or.inl ⟨by rfl, ?_⟩) (by assumption) ?_
      rotate_left
      · intro w' hSw
        (try dsimp only at hSw)
        go_simp
        all_goals (try with_reducible rfl)
      (try simp only [Act.put, List.getElem_toArray, List.getElem_cons_zero, List.getElem_cons_succ, List.setIfInBounds_toArray, List.set_cons_zero, List.set_cons_succ])
      refine wpAnyH_take (i := 2) (v := ?_) rfl (by kernel_rfl) (by kernel_rfl) (by kernel_rfl) (fun _ _ _ h => h) (Or.inl ⟨by rfl, ?_⟩) (by assumption) ?_
      rotate_left
      · intro w' hSw
        (try dsimp only at hSw)
        go_simp
        all_goals (try with_reducible rfl)
      (try simp only [Act.put, List.getElem_toArray, List.getElem_cons_zero, List.getElem_cons_succ, List.setIfInBounds_toArray, List.set_cons_zero, List.set_cons_succ])
      refine wpAnyH_take (i := 3) (v := ?_) rfl (by kernel_rfl) (by kernel_rfl) (by kernel_rfl) (fun _ _ _ h => h) (Or.inl ⟨by rfl, ?_⟩) (by assumption) ?_
      rotate_left
      · intro w' hSw
        (try dsimp only at hSw)
        go_simp
        all_goals (try with_reducible rfl)
      (try simp only [Act.put, List.getElem_toArray, List.getElem_cons_zero, List.getElem_cons_succ, List.setIfInBounds_toArray, List.set_cons_zero, List.set_cons_succ])
      refine wpAnyH_take (i := 4) (v := ?_) rfl (by kernel_rfl) (by kernel_rfl) (by kernel_rfl) (fun _ _ _ h => h) (Or.inl ⟨by rfl, ?_⟩) (by assumption) ?_
      rotate_left
      · intro w' hSw
        (try dsimp only at hSw)
        go_simp
        all_goals (try with_reducible rfl)
      (try simp only [Act.put, List.getElem_toArray, List.getElem_cons_zero, List.getElem_cons_succ, List.setIfInBounds_toArray, List.set_cons_zero, List.set_cons_succ])
      refine wpAnyH_take (i := 5) (v := ?_) rfl (by kernel_rfl) (by kernel_rfl) (by kernel_rfl) (fun _ _ _ h => h) (Or.inl ⟨by rfl, ?_⟩) (by assumption) ?_
      rotate_left
      · intro w' hSw
        (try dsimp only at hSw)
        go_simp
        all_goals (try with_reducible rfl)
      (try simp only [Act.put, List.getElem_toArray, List.getElem_cons_zero, List.getElem_cons_succ, List.setIfInBounds_toArray, List.set_cons_zero, List.set_cons_succ])
      refine wpAnyH_take (i := 6) (v := ?_) rfl (by kernel_rfl) (by kernel_rfl) (by kernel_rfl) (fun _ _ _ h => h) (Or.inl ⟨by rfl, ?_⟩) (by assumption) ?_
      rotate_left
      · intro w' hSw
        (try dsimp only at hSw)
        go_simp
        all_goals (try with_reducible rfl)
      (try simp only [Act.put, List.getElem_toArray, List.getElem_cons_zero, List.getElem_cons_succ, List.setIfInBounds_toArray, List.set_cons_zero, List.set_cons_succ])
      refine wpAnyH_take (i := 7) (v := ?_) rfl (by kernel_rfl) (by kernel_rfl) (by kernel_rfl) (fun _ _ _ h => h) (Or.inl ⟨by rfl, ?_⟩) (by assumption) ?_
      rotate_left
      · intro w' hSw
        (try dsimp only at hSw)
        go_simp
        all_goals (try with_reducible rfl)
      (try simp only [Act.put, List.getElem_toArray, List.getElem_cons_zero, List.getElem_cons_succ, List.setIfInBounds_toArray, List.set_cons_zero, List.set_cons_succ])
      refine wpAnyH_ready (rs := [8]) (by kernel_rfl) (by simp) ?_
      refine AllReadyH.cons rfl (fun K hK => ?_) AllReadyH.nil
      (try simp only [Act.put, List.getElem_toArray, List.getElem_cons_zero, List.getElem_cons_succ, List.setIfInBounds_toArray, List.set_cons_zero, List.set_cons_succ])
      go_simp
      (go_at_call 9; refine (eqObj_same x.l.length x.l.length _ _ x.l x.a x.b x.c _ hxl (HS1.out.next (hHeld.2.2)) (HS2.out.next (hHeld.2.2))).mono ?_; rintro e w8 ⟨rfl, hb⟩)
      (try simp only [])
      refine hK.out _ _ ?_ (fun hHeld' => ?_)
      · (try dsimp only)
        exact ⟨ObAt.next (o := cpO x gk) hHeld.1 hb, ObAt.next (o := cpO x gk') hHeld.2.1 hb, hHeld.2.2.trans (hb.mono hHeld.2.2.size)⟩
      clear hK K
      clear hHeld
      have hHeld := hHeld'
      clear hHeld'
      clear hb
      (try simp only [Act.put, List.getElem_toArray, List.getElem_cons_zero, List.getElem_cons_succ, List.setIfInBounds_toArray, List.set_cons_zero, List.set_cons_succ])
      refine wpAnyH_take (i := 9) (v := ?_) rfl (by kernel_rfl) (by kernel_rfl) (by kernel_rfl) (fun _ _ _ h => h) (Or.inl ⟨by rfl, ?_⟩) (by assumption) ?_
      rotate_left
      · intro w' hSw
        (try dsimp only at hSw)
        go_simp
        all_goals (try with_reducible rfl)
      (try simp only [Act.put, List.getElem_toArray, List.getElem_cons_zero, List.getElem_cons_succ, List.setIfInBounds_toArray, List.set_cons_zero, List.set_cons_succ])
      refine wpAnyH_done (by kernel_rfl) ?_ _

      have HB2 : Hid (Below W.heap.size W _) := hHeld.2.2
      clear hHeld H1 H2 HS1 HS2
      go_wp2
      go_roundw
      case rel => first | exact ⟨k + 1, by omega, by go_num, HB2.out⟩ | ((repeat apply Exists.intro); exact ⟨⟨k + 1, by omega, by go_num, HB2.out⟩, rfl⟩)
      case measure => simp [intOf]; omega
    · have hlt' : ¬ (k : Int) < (os.length : Int) := by omega
      go_wp2
      go_ret
      exact ⟨rfl, HB.out⟩
/-- Of old blocks only those from lo on and below hi may be written. -/
structure Chg (lo hi : Nat) (w w' : World) : Prop where
  os : w'.os = w.os
  tape : w'.tape = w.tape
  output : w'.output = w.output
  size : w.heap.size ≤ w'.heap.size
  block : ∀ b, b < w.heap.size → (b < lo ∨ hi ≤ b) → w'.heap[b]? = w.heap[b]?
theorem Chg.refl (lo hi : Nat) (w : World) : Chg lo hi w w := ⟨rfl, rfl, rfl, Nat.le_refl _, fun _ _ _ => rfl⟩
theorem Chg.by {lo hi : Nat} {w w1 w2 : World} {r : Option Nat} (h : Chg lo hi w w1) (hg : w1.grownBy w2 r) (hr : ∀ k, r = some k → lo ≤ k ∧ k < hi) : Chg lo hi w w2 :=
  ⟨hg.os.trans h.os, hg.tape.trans h.tape, hg.output.trans h.output, Nat.le_trans h.size hg.size, fun b hb hne => (hg.block b (Nat.lt_of_lt_of_le hb h.size) (fun e => by have := hr b e.symm; omega)).trans (h.block b hb hne)⟩
theorem Chg.cell {lo hi : Nat} {w w' : World} (h : Chg lo hi w w') {b o : Nat} {v : Value} (hc : w.cell? ⟨b, o, none⟩ = some v) (hne : b < lo ∨ hi ≤ b) : w'.cell? ⟨b, o, none⟩ = some v := by
  rw [World.cell?_of_block (w := w) (h.block b (cell_lt (x := ⟨b, o, none⟩) hc) hne)]; exact hc
theorem Chg.below {lo hi : Nat} {w W W' : World} (h : Chg lo hi W W') (hb : Below w.heap.size w W) (hl : w.heap.size ≤ lo) : Below w.heap.size w W' :=
  ⟨h.os.trans hb.os, h.tape.trans hb.tape, h.output.trans hb.output, Nat.le_trans hb.size h.size, fun b hlt => (h.block b (Nat.lt_of_lt_of_le hlt hb.size) (.inl (by omega))).trans (hb.block b hlt)⟩
theorem Chg.own {lo hi : Nat} {w w' : World} {e size n : Nat} {v : Value} {xs : List Value} (hg : Chg lo hi w w') (h : w.ownsRow 0 e size v n xs) (hne : ∀ k, v.ownBlock = some k → k < lo ∨ hi ≤ k) : w'.ownsRow 0 e size v n xs := by
  refine ⟨h.1, ?_⟩
  rcases h.2 with h' | ⟨g, cap, cur, rfl, hb, hh, r⟩
  · exact .inl h'
  · exact .inr ⟨g, cap, cur, rfl, hb, by rw [hg.block g (h.lt g rfl).2 (hne g rfl)]; exact hh, r⟩
/-- What marking a copied list needs and keeps: the blocks that are written lie from g on, below hi. -/
structure MX (W wr : World) (g hi k : Nat) (os : List Ov) (gs : Nat → Nat) : Prop where
  chg : Chg g hi W wr
  th : There wr g (os.length * 4)
  row : ∀ i (h : i < os.length), k ≤ i → There wr (gs i) (os[i].l.length * 4) ∧ g < gs i ∧ gs i < hi ∧ gs i < wr.heap.size
  ob : ∀ i (h : i < os.length), k ≤ i → wr.cell? ⟨g, i * 4, none⟩ = some (.slice (some ⟨gs i, 0, none⟩) os[i].l.length os[i].l.length)
  lt : g < wr.heap.size ∧ g < hi
  mono : ∀ i j, i < os.length → j < i → gs j < gs i
theorem there_by {W W' : World} {g n q : Nat} (h : There W g n) (hg : W.grownBy W' (some q)) (hne : g ≠ q) (hl : g < W.heap.size) : There W' g n := fun j hj => ⟨by rw [World.cell?_of_block (w := W) (hg.block g hl (fun e' => hne (by cases e'; rfl)))]; exact (h j hj).1, by rw [World.frozen?_of_block (w := W) (hg.block g hl (fun e' => hne (by cases e'; rfl)))]; exact (h j hj).2⟩
theorem MX.mark {W wr w1 : World} {g hi k : Nat} {os : List Ov} {gs : Nat → Nat} (h : MX W wr g hi k os gs) (hk : k < os.length) (hg : wr.grownBy w1 (some (gs k))) : MX W w1 g hi (k + 1) os gs := by
  obtain ⟨_, r1, r2, r3⟩ := h.row k hk (Nat.le_refl _)
  refine ⟨h.chg.by hg (fun q e => by cases e; omega), there_by h.th hg (by omega) h.lt.1, fun i hi' hik => ?_, fun i hi' hik => ?_, ⟨Nat.lt_of_lt_of_le h.lt.1 hg.size, h.lt.2⟩, h.mono⟩
  · obtain ⟨q0, q1, q2, q3⟩ := h.row i hi' (by omega)
    have := h.mono i k hi' (by omega)
    exact ⟨there_by q0 hg (by omega) q3, q1, q2, Nat.lt_of_lt_of_le q3 hg.size⟩
  · exact hg.cell (h.ob i hi' (by omega)) (fun e => by cases e; omega)
theorem MX.set {W wr : World} {g hi k o : Nat} {os : List Ov} {gs : Nat → Nat} {u : Value} (h : MX W wr g hi k os gs) (ho : o < k * 4) : MX W (wr.setCell ⟨g, o, none⟩ u) g hi k os gs := by
  refine ⟨h.chg.by (gb_set _ _ _ _) (fun q e => by cases e; exact ⟨Nat.le_refl _, h.lt.2⟩), h.th.set, fun i hi' hik => ?_, fun i hi' hik => cell_oth (h.ob i hi' hik) (by omega), ⟨by simpa [World.setCell] using h.lt.1, h.lt.2⟩, h.mono⟩
  obtain ⟨q0, q1, q2, q3⟩ := h.row i hi' hik
  exact ⟨q0.set, q1, q2, by simpa [World.setCell] using q3⟩
theorem XR.mx {w wr : World} {g hi : Nat} {os : List Ov} {gs : Nat → Nat} (h : XR w wr g os gs os.length) (hh : ∀ i, i < os.length → gs i < hi) (hg : g < hi) : MX wr wr g hi 0 os gs :=
  ⟨Chg.refl _ _ _, h.th, fun i hi' _ => ⟨(h.row i hi' hi').2.1, (h.row i hi' hi').2.2.1, hh i hi', (h.row i hi' hi').2.2.2⟩, fun i hi' _ => (h.ob i hi' hi').1, ⟨h.lt, hg⟩, h.mono⟩
set_option maxHeartbeats 4000000 in
theorem markObjS_any (g hi : Nat) (os : List Ov) (gs : Nat → Nat) (W : World) (hm : os.length + tot os ≤ 1048576) (hx : MX W W g hi 0 os gs) :
    Calls Try.prog 11 #[.slice (some ⟨g, 0, none⟩) os.length os.length, .int .i64 1] W fun e w' => ∃ k : Int, e = .returned (.int .i64 k) ∧ 0 ≤ k ∧ Chg g hi W w' := by
  have HX : Hid (MX W W g hi 0 os gs) := hx
  have hm1 : (os.length : Int) ≤ 1048576 := by omega
  have HM : Hid (os.length + tot os ≤ 1048576) := hm
  clear hx hm
  go_enter Try.func11, Try.ntmps11
  go_wp2
  go_loopw [1, 5, 6] (fun s1 s5 s6 wr => ∃ (i : Nat) (k : Nat), i ≤ os.length ∧ s5 = .int .i64 i ∧ s1 = .int .i64 (k : Int) ∧ Hid (k = 1 + 4 * tot (os.take i) + 3 * i) ∧ MX W wr g hi i os gs) (fun _ s5 _ _ => os.length - (intOf s5).toNat)
  case atStart => exact ⟨0, 1, by omega, rfl, rfl, by show _ = _; simp [tot], HX.out⟩
  case round =>
    clear HX
    obtain ⟨i, k, hi0, rfl, rfl, HK, hX0⟩ := hrel
    have HX : Hid (MX W wr g hi i os gs) := hX0
    clear hX0
    by_cases hlt : i < os.length
    · have hlt' : (i : Int) < (os.length : Int) := by omega
      have kk : (0 : Int) ≤ (i : Int) := by omega
      have hxl : os[i].l.length ≤ 1048576 := by have := tot_mem (List.getElem_mem hlt); have := HM.out; omega
      have hkb : k ≤ 8000000 := by have := HK.out; have := tot_le os i; have := HM.out; omega
      have HT : Hid (k + 4 * os[i].l.length + 3 = 1 + 4 * tot (os.take (i + 1)) + 3 * (i + 1)) := by show _ = _; rw [tot_take hlt]; have := HK.out; omega
      have x0 := HX.out.ob i hlt (Nat.le_refl _)
      have hT1 : Hid (There wr (gs i) (os[i].l.length * 4)) := (HX.out.row i hlt (Nat.le_refl _)).1
      have HMK : Hid (∀ w1, wr.grownBy w1 (some (gs i)) → MX W w1 g hi (i + 1) os gs) := fun w1 h => HX.out.mark hlt h
      generalize os[i].l.length = n at *
      generalize gs i = gi at *
      go_wp2_with fail
      refine (markS_any gi n n (k : Int) _ hxl (by omega) (by omega) hT1.out).mono ?_
      rintro e w1 ⟨rfl, hg, _⟩
      have H1 : Hid (MX W w1 g hi (i + 1) os gs) := HMK.out w1 hg
      obtain ⟨u1, y1⟩ := Option.isSome_iff_exists.1 (H1.out.th (i * 4 + 1) (by omega)).1
      obtain ⟨u2, y2⟩ := Option.isSome_iff_exists.1 (H1.out.th (i * 4 + 2) (by omega)).1
      obtain ⟨u3, y3⟩ := Option.isSome_iff_exists.1 (H1.out.th (i * 4 + 3) (by omega)).1
      have z1 := (H1.out.th (i * 4 + 1) (by omega)).2
      have z2 := (H1.out.th (i * 4 + 2) (by omega)).2
      have z3 := (H1.out.th (i * 4 + 3) (by omega)).2
      have hk2 : (k : Int) + 4 * (n : Int) = ((k + 4 * n : Nat) : Int) := by omega
      rw [hk2]
      have hkb2 : k + 4 * n ≤ 20000000 := by omega
      have HT2 : Hid ((k + 4 * n) + 3 = 1 + 4 * tot (os.take (i + 1)) + 3 * (i + 1)) := HT.out
      generalize k + 4 * n = k2 at *
      clear hg x0 hT1 HMK HX HT HK hk2
      go_wp2
      refine wp_loop_rounds 4 ?_
      rw [rounds_succ]
      go_wp2
      rw [rounds_succ]
      go_wp2
      rw [rounds_succ]
      go_wp2
      rw [rounds_succ]
      go_wp2
      go_roundw
      case rel =>
        refine ⟨i + 1, k2 + 3, by omega, by go_num, by go_num, HT2, ?_⟩
        exact ((H1.out.set (by omega)).set (by omega)).set (by omega)
      case measure => simp [intOf]; omega
    · have hlt' : ¬ (i : Int) < (os.length : Int) := by omega
      have HC : Hid (Chg g hi W wr) := HX.out.chg
      clear HX HK
      go_wp2
      go_ret
      exact ⟨_, rfl, by omega, HC.out⟩
end Go.Proofs.Ytjjgodnbfflepaa

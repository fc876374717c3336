/- l03ToVv and ReadVv, of the specification. -/
import Derived.Test.YtodjbkeljfnebaaRows
import Derived.WalkKit
import Derived.WalkSpells
import Derived.WalkLawsBesides
import Derived.Deep.QuietTactic
import Derived.BigQuiet
import Derived.Deep.RegionHeld3
import Derived.Test.YtodjbkeljfnebaaCu
import Derived.Test.YtodjbkeljfnebaaSr
import Derived.LoopN
namespace Go.Proofs.Ytodjbkeljfnebaa
open Go.RowKit
set_option linter.unusedSimpArgs false
set_option linter.unusedVariables false

def TVI (w wr : World) (vb g : Nat) (p0 p1 p2 : ByteArray) (x y z : Int) : Prop := (wr.cell? ⟨w.heap.size, 0, none⟩ = some (.int .i64 0) ∧ wr.cell? ⟨w.heap.size, 1, none⟩ = some (.int .i64 0) ∧ wr.cell? ⟨w.heap.size, 2, none⟩ = some (.int .i64 0)) ∧ (wr.frozen? ⟨w.heap.size, 0, none⟩ = false ∧ wr.frozen? ⟨w.heap.size, 1, none⟩ = false ∧ wr.frozen? ⟨w.heap.size, 2, none⟩ = false) ∧ (wr.cell? ⟨vb, 0, none⟩ = some (.int .i64 x) ∧ wr.cell? ⟨vb, 1, none⟩ = some (.int .i64 y) ∧ wr.cell? ⟨vb, 2, none⟩ = some (.int .i64 z)) ∧ (wr.frozen? ⟨vb, 0, none⟩ = false ∧ wr.frozen? ⟨vb, 1, none⟩ = false ∧ wr.frozen? ⟨vb, 2, none⟩ = false) ∧ (wr.cell? ⟨g, 0, none⟩ = some (.string p0) ∧ wr.cell? ⟨g, 1, none⟩ = some (.string p1) ∧ wr.cell? ⟨g, 2, none⟩ = some (.string p2)) ∧ Below w.heap.size w wr ∧ w.heap.size < vb ∧ vb < wr.heap.size ∧ g < vb
theorem TVI.next {w wr wr' : World} {vb g : Nat} {p0 p1 p2 : ByteArray} {x y z : Int} (h : TVI w wr vb g p0 p1 p2 x y z) (hb : Below wr.heap.size wr wr') : TVI w wr' vb g p0 p1 p2 x y z := by
  obtain ⟨⟨a0, a1, a2⟩, ⟨q0, q1, q2⟩, ⟨v0, v1, v2⟩, ⟨f0, f1, f2⟩, ⟨c0, c1, c2⟩, hB, h1, h2, h3⟩ := h
  exact ⟨⟨cell_next hb a0 (by omega), cell_next hb a1 (by omega), cell_next hb a2 (by omega)⟩, ⟨frozen_next hb q0 (by omega), frozen_next hb q1 (by omega), frozen_next hb q2 (by omega)⟩, ⟨cell_next hb v0 h2, cell_next hb v1 h2, cell_next hb v2 h2⟩, ⟨frozen_next hb f0 h2, frozen_next hb f1 h2, frozen_next hb f2 h2⟩, ⟨cell_next hb c0 (by omega), cell_next hb c1 (by omega), cell_next hb c2 (by omega)⟩, (bel_next hB hb).out, h1, Nat.lt_of_lt_of_le h2 hb.size, h3⟩
theorem TVI.set0 {w wr : World} {vb g : Nat} {p0 p1 p2 : ByteArray} {x y z n : Int} (h : TVI w wr vb g p0 p1 p2 x y z) : TVI w (wr.setCell ⟨vb, 0, none⟩ (.int .i64 n)) vb g p0 p1 p2 n y z := by
  have hz1 := h.2.2.2.2.2.2.1
  have hz3 := h.2.2.2.2.2.2.2.2
  exact ⟨⟨cell_set h.1.1 (by omega), cell_set h.1.2.1 (by omega), cell_set h.1.2.2 (by omega)⟩, ⟨by rw [World.frozen?_setCell]; exact h.2.1.1, by rw [World.frozen?_setCell]; exact h.2.1.2.1, by rw [World.frozen?_setCell]; exact h.2.1.2.2⟩, ⟨cell_same h.2.2.1.1, cell_oth3 h.2.2.1.2.1 (by omega), cell_oth3 h.2.2.1.2.2 (by omega)⟩, ⟨by rw [World.frozen?_setCell]; exact h.2.2.2.1.1, by rw [World.frozen?_setCell]; exact h.2.2.2.1.2.1, by rw [World.frozen?_setCell]; exact h.2.2.2.1.2.2⟩, ⟨cell_set h.2.2.2.2.1.1 (by omega), cell_set h.2.2.2.2.1.2.1 (by omega), cell_set h.2.2.2.2.1.2.2 (by omega)⟩, h.2.2.2.2.2.1.setCell (by simp; omega) _, hz1, by simpa [World.setCell] using h.2.2.2.2.2.2.2.1, hz3⟩
theorem TVI.set1 {w wr : World} {vb g : Nat} {p0 p1 p2 : ByteArray} {x y z n : Int} (h : TVI w wr vb g p0 p1 p2 x y z) : TVI w (wr.setCell ⟨vb, 1, none⟩ (.int .i64 n)) vb g p0 p1 p2 x n z := by
  have hz1 := h.2.2.2.2.2.2.1
  have hz3 := h.2.2.2.2.2.2.2.2
  exact ⟨⟨cell_set h.1.1 (by omega), cell_set h.1.2.1 (by omega), cell_set h.1.2.2 (by omega)⟩, ⟨by rw [World.frozen?_setCell]; exact h.2.1.1, by rw [World.frozen?_setCell]; exact h.2.1.2.1, by rw [World.frozen?_setCell]; exact h.2.1.2.2⟩, ⟨cell_oth3 h.2.2.1.1 (by omega), cell_same h.2.2.1.2.1, cell_oth3 h.2.2.1.2.2 (by omega)⟩, ⟨by rw [World.frozen?_setCell]; exact h.2.2.2.1.1, by rw [World.frozen?_setCell]; exact h.2.2.2.1.2.1, by rw [World.frozen?_setCell]; exact h.2.2.2.1.2.2⟩, ⟨cell_set h.2.2.2.2.1.1 (by omega), cell_set h.2.2.2.2.1.2.1 (by omega), cell_set h.2.2.2.2.1.2.2 (by omega)⟩, h.2.2.2.2.2.1.setCell (by simp; omega) _, hz1, by simpa [World.setCell] using h.2.2.2.2.2.2.2.1, hz3⟩
theorem TVI.set2 {w wr : World} {vb g : Nat} {p0 p1 p2 : ByteArray} {x y z n : Int} (h : TVI w wr vb g p0 p1 p2 x y z) : TVI w (wr.setCell ⟨vb, 2, none⟩ (.int .i64 n)) vb g p0 p1 p2 x y n := by
  have hz1 := h.2.2.2.2.2.2.1
  have hz3 := h.2.2.2.2.2.2.2.2
  exact ⟨⟨cell_set h.1.1 (by omega), cell_set h.1.2.1 (by omega), cell_set h.1.2.2 (by omega)⟩, ⟨by rw [World.frozen?_setCell]; exact h.2.1.1, by rw [World.frozen?_setCell]; exact h.2.1.2.1, by rw [World.frozen?_setCell]; exact h.2.1.2.2⟩, ⟨cell_oth3 h.2.2.1.1 (by omega), cell_oth3 h.2.2.1.2.1 (by omega), cell_same h.2.2.1.2.2⟩, ⟨by rw [World.frozen?_setCell]; exact h.2.2.2.1.1, by rw [World.frozen?_setCell]; exact h.2.2.2.1.2.1, by rw [World.frozen?_setCell]; exact h.2.2.2.1.2.2⟩, ⟨cell_set h.2.2.2.2.1.1 (by omega), cell_set h.2.2.2.2.1.2.1 (by omega), cell_set h.2.2.2.2.1.2.2 (by omega)⟩, h.2.2.2.2.2.1.setCell (by simp; omega) _, hz1, by simpa [World.setCell] using h.2.2.2.2.2.2.2.1, hz3⟩
theorem vvT_num0 {l a b c : List UInt8} {p0 p1 p2 : ByteArray} (h : VvT l a b c) (hp : [p0, p1, p2].map bl = cutL 46 l) : Num (bl p0) ∧ (bl p0).length ≤ 18 := by
  rw [vvT_cut h] at hp
  simp only [List.map_cons, List.map_nil, List.cons.injEq, and_true] at hp
  obtain ⟨h0, h1, h2⟩ := hp
  have hN := h.2.1
  rw [← h0] at hN
  exact ⟨hN.1, by
    rcases Nat.lt_or_ge (bl p0).length 6 with q | q
    · omega
    · have := num_big hN.1 q; omega⟩
theorem vvT_part0 {l a b c : List UInt8} {p0 p1 p2 : ByteArray} (h : VvT l a b c) (hp : [p0, p1, p2].map bl = cutL 46 l) : nv (bl p0) ≤ 9999 := by
  rw [vvT_cut h] at hp
  simp only [List.map_cons, List.map_nil, List.cons.injEq, and_true] at hp
  obtain ⟨h0, h1, h2⟩ := hp
  have hN := h.2.1
  rw [← h0] at hN
  exact hN.2
theorem vvT_num1 {l a b c : List UInt8} {p0 p1 p2 : ByteArray} (h : VvT l a b c) (hp : [p0, p1, p2].map bl = cutL 46 l) : Num (bl p1) ∧ (bl p1).length ≤ 18 := by
  rw [vvT_cut h] at hp
  simp only [List.map_cons, List.map_nil, List.cons.injEq, and_true] at hp
  obtain ⟨h0, h1, h2⟩ := hp
  have hN := h.2.2.1
  rw [← h1] at hN
  exact ⟨hN.1, by
    rcases Nat.lt_or_ge (bl p1).length 6 with q | q
    · omega
    · have := num_big hN.1 q; omega⟩
theorem vvT_part1 {l a b c : List UInt8} {p0 p1 p2 : ByteArray} (h : VvT l a b c) (hp : [p0, p1, p2].map bl = cutL 46 l) : nv (bl p1) ≤ 9999 := by
  rw [vvT_cut h] at hp
  simp only [List.map_cons, List.map_nil, List.cons.injEq, and_true] at hp
  obtain ⟨h0, h1, h2⟩ := hp
  have hN := h.2.2.1
  rw [← h1] at hN
  exact hN.2
theorem vvT_num2 {l a b c : List UInt8} {p0 p1 p2 : ByteArray} (h : VvT l a b c) (hp : [p0, p1, p2].map bl = cutL 46 l) : Num (bl p2) ∧ (bl p2).length ≤ 18 := by
  rw [vvT_cut h] at hp
  simp only [List.map_cons, List.map_nil, List.cons.injEq, and_true] at hp
  obtain ⟨h0, h1, h2⟩ := hp
  have hN := h.2.2.2
  rw [← h2] at hN
  exact ⟨hN.1, by
    rcases Nat.lt_or_ge (bl p2).length 6 with q | q
    · omega
    · have := num_big hN.1 q; omega⟩
theorem vvT_part2 {l a b c : List UInt8} {p0 p1 p2 : ByteArray} (h : VvT l a b c) (hp : [p0, p1, p2].map bl = cutL 46 l) : nv (bl p2) ≤ 9999 := by
  rw [vvT_cut h] at hp
  simp only [List.map_cons, List.map_nil, List.cons.injEq, and_true] at hp
  obtain ⟨h0, h1, h2⟩ := hp
  have hN := h.2.2.2
  rw [← h2] at hN
  exact hN.2
def GPt (p : ByteArray) (n : Int) : Prop := Num (bl p) ∧ nv (bl p) ≤ 9999 ∧ n = nv (bl p)
/-- What a call of l03ToVv leaves. -/
def TvP (w : World) (s : ByteArray) (e : Ending) (w' : World) : Prop := (∃ a b c, VvT (bl s) a b c ∧ e = .returned (.tuple #[.agg #[.int .i64 (nv a), .int .i64 (nv b), .int .i64 (nv c)], .bool true]) ∧ Below w.heap.size w w') ∨ ((¬ ∃ a b c, VvT (bl s) a b c) ∧ e = .returned (.tuple #[.agg #[.int .i64 0, .int .i64 0, .int .i64 0], .bool false]) ∧ Below w.heap.size w w')
set_option maxHeartbeats 8000000 in
theorem l03ToVv_any (s : ByteArray) (w : World) (hs : s.size ≤ 1048576) :
    Calls Try.prog 54 #[.string s] w fun e w' => TvP w s e w' := by
  go_enter Try.func54, Try.ntmps54
  go_wp2_with fail
  refine (cut_any s 46 _ hs (by omega)).mono ?_
  rintro e w1 ⟨g, cap, ps, rfl, hPS, hSZ, hC, hb⟩
  have HB1 : Hid (Below w.heap.size w w1) := (bel_alloc _ _).trans (hb.mono (by simp))
  have r0 := cell_next hb (b := w.heap.size) (o := 0) (v := .int .i64 0) (by go_simp) (by simp)
  have r1 := cell_next hb (b := w.heap.size) (o := 1) (v := .int .i64 0) (by go_simp) (by simp)
  have r2 := cell_next hb (b := w.heap.size) (o := 2) (v := .int .i64 0) (by go_simp) (by simp)
  have q0 := frozen_next hb (b := w.heap.size) (o := 0) (by go_simp) (by simp)
  have q1 := frozen_next hb (b := w.heap.size) (o := 1) (by go_simp) (by simp)
  have q2 := frozen_next hb (b := w.heap.size) (o := 2) (by go_simp) (by simp)
  have hz : w.heap.size < w1.heap.size := by have := hb.size; simp at this; omega
  clear hb
  have HPS0 : Hid (ps.map bl = cutL 46 (bl s)) := hPS
  by_cases h3 : ps.length = 3
  · obtain ⟨p0, p1, p2, rfl⟩ : ∃ p0 p1 p2, ps = [p0, p1, p2] := by
      match ps, h3 with
      | [a, b, c], _ => exact ⟨a, b, c, rfl⟩
    have k0 := hC 0 (by simp)
    have k1 := hC 1 (by simp)
    have k2 := hC 2 (by simp)
    simp only [List.getElem_cons_zero, List.getElem_cons_succ] at k0 k1 k2
    have z0 := hSZ p0 (by simp)
    have z1 := hSZ p1 (by simp)
    have z2 := hSZ p2 (by simp)
    have HPS : Hid ([p0, p1, p2].map bl = cutL 46 (bl s)) := HPS0.out
    have hg1 : g < w1.heap.size := World.block_lt_of_cell? w1 ⟨g, 0, none⟩ k0
    have TV0 : Hid (TVI w (w1.alloc (.cells #[.int .i64 0, .int .i64 0, .int .i64 0] 30)) w1.heap.size g p0 p1 p2 0 0 0) := ⟨⟨box_a r0 hz, box_a r1 hz, box_a r2 hz⟩, ⟨froz_a q0 hz, froz_a q1 hz, froz_a q2 hz⟩, ⟨by go_simp, by go_simp, by go_simp⟩, ⟨by go_simp, by go_simp, by go_simp⟩, ⟨box_a k0 hg1, box_a k1 hg1, box_a k2 hg1⟩, (bel_next HB1 (bel_alloc _ _)).out, hz, by simp, hg1⟩
    clear hC hSZ hPS HPS0 h3 k0 k1 k2 r0 r1 r2 q0 q1 q2 HB1 hz hg1
    simp only [List.length_cons, List.length_nil, Nat.zero_add]
    go_wp2
    generalize w1.alloc (.cells #[.int .i64 0, .int .i64 0, .int .i64 0] 30) = W1 at *
    generalize w1.heap.size = vb at *
    clear w1
    go_loopw [6] (fun s6 wr => ∃ (i : Nat) (x y z : Int), i ≤ 3 ∧ s6 = .int .i64 i ∧ TVI w wr vb g p0 p1 p2 x y z ∧ (0 < i → GPt p0 x) ∧ (1 < i → GPt p1 y) ∧ (2 < i → GPt p2 z) ∧ (i < 1 → x = 0) ∧ (i < 2 → y = 0) ∧ (i < 3 → z = 0)) (fun s6 _ => 3 - (intOf s6).toNat)
    case atStart => exact ⟨0, 0, 0, 0, by omega, rfl, TV0.out, fun h => by omega, fun h => by omega, fun h => by omega, fun _ => rfl, fun _ => rfl, fun _ => rfl⟩
    case round =>
      obtain ⟨i, x, y, z, hi, rfl, hTV, g0, g1, g2, e0, e1, e2⟩ := hrel
      have hp4 : i = 0 ∨ i = 1 ∨ i = 2 ∨ i = 3 := by omega
      rcases hp4 with rfl | rfl | rfl | rfl
      · obtain rfl := e0 (by omega)
        obtain rfl := e1 (by omega)
        obtain rfl := e2 (by omega)
        have TV : Hid (TVI w wr vb g p0 p1 p2 0 0 0) := hTV
        clear hTV g0 g1 g2 e0 e1 e2 TV0
        have c0 := TV.out.2.2.2.2.1.1
        by_cases hN : Num (bl p0) ∧ (bl p0).length ≤ 18
        · obtain ⟨v, hv⟩ : ∃ v, v = nv (bl p0) := ⟨_, rfl⟩
          have Q0 := l03num_yes p0
          rw [← hv] at Q0
          have HQ : Hid (∀ W : World, Calls Try.prog 67 #[.string p0] W fun e w' => e = .returned (.tuple #[.int .i64 v, .bool true]) ∧ Below W.heap.size W w') := fun W => Q0 W (by omega) hN
          have HV : Hid (v = nv (bl p0)) := hv
          have HNN : Hid (Num (bl p0)) := hN.1
          clear Q0 hv hN
          go_wp2_with fail
          refine (HQ.out _).mono ?_
          rintro e w3 ⟨rfl, hb⟩
          have TV3 : Hid (TVI w w3 vb g p0 p1 p2 0 0 0) := TV.out.next hb
          clear hb c0
          by_cases hb9 : 9999 < v
          · have HF : Hid (¬ ∃ a b c, VvT (bl s) a b c) := fun ⟨a, b, c, hV⟩ => by have := vvT_part0 hV HPS.out; rw [← HV.out] at this; omega
            obtain ⟨⟨r0, r1, r2⟩, ⟨q0, q1, q2⟩, ⟨v0, v1, v2⟩, _, _, hB, hz1, hz2, _⟩ := TV3.out
            have HB : Hid (Below w.heap.size w _) := hB
            clear hB
            go_wp2
            (try rw [Exit.noGoto_ret])
            refine bodyPost_ret (v := .tuple #[.agg #[.int .i64 0, .int .i64 0, .int .i64 0], .bool false]) (by simp [results, Try.results54, go_sem, r0, r1, r2, q0, q1, q2]) rfl (.inr ⟨HF.out, rfl, ?_⟩)
            exact ((HB.out.setCell (by simp) _).setCell (by simp) _).setCell (by simp) _
          · obtain ⟨_, _, ⟨v0, v1, v2⟩, ⟨p0', p1', p2'⟩, _, _, hz1, hz2, _⟩ := TV3.out
            have TV4 : Hid (TVI w (w3.setCell ⟨vb, 0, none⟩ (.int .i64 v)) vb g p0 p1 p2 v 0 0) := TV3.out.set0
            have GP : Hid (GPt p0 v) := ⟨HNN.out, by rw [← HV.out]; omega, HV.out⟩
            go_wp2
            go_roundw
            case rel => first | exact ⟨1, v, 0, 0, by omega, by go_num, TV4.out, fun _ => GP.out, fun h => by omega, fun h => by omega, fun h => by omega, fun _ => rfl, fun _ => rfl⟩ | ((repeat apply Exists.intro); exact ⟨⟨1, v, 0, 0, by omega, by go_num, TV4.out, fun _ => GP.out, fun h => by omega, fun h => by omega, fun h => by omega, fun _ => rfl, fun _ => rfl⟩, rfl⟩)
            case measure => simp [intOf]
        · have HQ : Hid (∀ W : World, Calls Try.prog 67 #[.string p0] W fun e w' => N3P W e w') := fun W => l03num_no p0 W (by omega) hN
          have HNN : Hid (¬ (Num (bl p0) ∧ (bl p0).length ≤ 18)) := hN
          clear hN
          go_wp2_with fail
          refine (HQ.out _).mono ?_
          rintro e w3 ⟨v, rfl, hb⟩
          have TV3 : Hid (TVI w w3 vb g p0 p1 p2 0 0 0) := TV.out.next hb
          clear hb c0
          have HF : Hid (¬ ∃ a b c, VvT (bl s) a b c) := fun ⟨a, b, c, hV⟩ => HNN.out (vvT_num0 hV HPS.out)
          obtain ⟨⟨r0, r1, r2⟩, ⟨q0, q1, q2⟩, ⟨v0, v1, v2⟩, _, _, hB, hz1, hz2, _⟩ := TV3.out
          have HB : Hid (Below w.heap.size w _) := hB
          clear hB
          go_wp2
          (try rw [Exit.noGoto_ret])
          refine bodyPost_ret (v := .tuple #[.agg #[.int .i64 0, .int .i64 0, .int .i64 0], .bool false]) (by simp [results, Try.results54, go_sem, r0, r1, r2, q0, q1, q2]) rfl (.inr ⟨HF.out, rfl, ?_⟩)
          exact ((HB.out.setCell (by simp) _).setCell (by simp) _).setCell (by simp) _
      · obtain rfl := e1 (by omega)
        obtain rfl := e2 (by omega)
        have TV : Hid (TVI w wr vb g p0 p1 p2 x 0 0) := hTV
        have HP0 : Hid (GPt p0 x) := g0 (by omega)
        clear hTV g0 g1 g2 e0 e1 e2 TV0
        have c1 := TV.out.2.2.2.2.1.2.1
        by_cases hN : Num (bl p1) ∧ (bl p1).length ≤ 18
        · obtain ⟨v, hv⟩ : ∃ v, v = nv (bl p1) := ⟨_, rfl⟩
          have Q0 := l03num_yes p1
          rw [← hv] at Q0
          have HQ : Hid (∀ W : World, Calls Try.prog 67 #[.string p1] W fun e w' => e = .returned (.tuple #[.int .i64 v, .bool true]) ∧ Below W.heap.size W w') := fun W => Q0 W (by omega) hN
          have HV : Hid (v = nv (bl p1)) := hv
          have HNN : Hid (Num (bl p1)) := hN.1
          clear Q0 hv hN
          go_wp2_with fail
          refine (HQ.out _).mono ?_
          rintro e w3 ⟨rfl, hb⟩
          have TV3 : Hid (TVI w w3 vb g p0 p1 p2 x 0 0) := TV.out.next hb
          clear hb c1
          by_cases hb9 : 9999 < v
          · have HF : Hid (¬ ∃ a b c, VvT (bl s) a b c) := fun ⟨a, b, c, hV⟩ => by have := vvT_part1 hV HPS.out; rw [← HV.out] at this; omega
            obtain ⟨⟨r0, r1, r2⟩, ⟨q0, q1, q2⟩, ⟨v0, v1, v2⟩, _, _, hB, hz1, hz2, _⟩ := TV3.out
            have HB : Hid (Below w.heap.size w _) := hB
            clear hB
            go_wp2
            (try rw [Exit.noGoto_ret])
            refine bodyPost_ret (v := .tuple #[.agg #[.int .i64 0, .int .i64 0, .int .i64 0], .bool false]) (by simp [results, Try.results54, go_sem, r0, r1, r2, q0, q1, q2]) rfl (.inr ⟨HF.out, rfl, ?_⟩)
            exact ((HB.out.setCell (by simp) _).setCell (by simp) _).setCell (by simp) _
          · obtain ⟨_, _, ⟨v0, v1, v2⟩, ⟨p0', p1', p2'⟩, _, _, hz1, hz2, _⟩ := TV3.out
            have TV4 : Hid (TVI w (w3.setCell ⟨vb, 1, none⟩ (.int .i64 v)) vb g p0 p1 p2 x v 0) := TV3.out.set1
            have GP : Hid (GPt p1 v) := ⟨HNN.out, by rw [← HV.out]; omega, HV.out⟩
            go_wp2
            go_roundw
            case rel => first | exact ⟨2, x, v, 0, by omega, by go_num, TV4.out, fun _ => HP0.out, fun _ => GP.out, fun h => by omega, fun h => by omega, fun h => by omega, fun _ => rfl⟩ | ((repeat apply Exists.intro); exact ⟨⟨2, x, v, 0, by omega, by go_num, TV4.out, fun _ => HP0.out, fun _ => GP.out, fun h => by omega, fun h => by omega, fun h => by omega, fun _ => rfl⟩, rfl⟩)
            case measure => simp [intOf]
        · have HQ : Hid (∀ W : World, Calls Try.prog 67 #[.string p1] W fun e w' => N3P W e w') := fun W => l03num_no p1 W (by omega) hN
          have HNN : Hid (¬ (Num (bl p1) ∧ (bl p1).length ≤ 18)) := hN
          clear hN
          go_wp2_with fail
          refine (HQ.out _).mono ?_
          rintro e w3 ⟨v, rfl, hb⟩
          have TV3 : Hid (TVI w w3 vb g p0 p1 p2 x 0 0) := TV.out.next hb
          clear hb c1
          have HF : Hid (¬ ∃ a b c, VvT (bl s) a b c) := fun ⟨a, b, c, hV⟩ => HNN.out (vvT_num1 hV HPS.out)
          obtain ⟨⟨r0, r1, r2⟩, ⟨q0, q1, q2⟩, ⟨v0, v1, v2⟩, _, _, hB, hz1, hz2, _⟩ := TV3.out
          have HB : Hid (Below w.heap.size w _) := hB
          clear hB
          go_wp2
          (try rw [Exit.noGoto_ret])
          refine bodyPost_ret (v := .tuple #[.agg #[.int .i64 0, .int .i64 0, .int .i64 0], .bool false]) (by simp [results, Try.results54, go_sem, r0, r1, r2, q0, q1, q2]) rfl (.inr ⟨HF.out, rfl, ?_⟩)
          exact ((HB.out.setCell (by simp) _).setCell (by simp) _).setCell (by simp) _
      · obtain rfl := e2 (by omega)
        have TV : Hid (TVI w wr vb g p0 p1 p2 x y 0) := hTV
        have HP0 : Hid (GPt p0 x) := g0 (by omega)
        have HP1 : Hid (GPt p1 y) := g1 (by omega)
        clear hTV g0 g1 g2 e0 e1 e2 TV0
        have c2 := TV.out.2.2.2.2.1.2.2
        by_cases hN : Num (bl p2) ∧ (bl p2).length ≤ 18
        · obtain ⟨v, hv⟩ : ∃ v, v = nv (bl p2) := ⟨_, rfl⟩
          have Q0 := l03num_yes p2
          rw [← hv] at Q0
          have HQ : Hid (∀ W : World, Calls Try.prog 67 #[.string p2] W fun e w' => e = .returned (.tuple #[.int .i64 v, .bool true]) ∧ Below W.heap.size W w') := fun W => Q0 W (by omega) hN
          have HV : Hid (v = nv (bl p2)) := hv
          have HNN : Hid (Num (bl p2)) := hN.1
          clear Q0 hv hN
          go_wp2_with fail
          refine (HQ.out _).mono ?_
          rintro e w3 ⟨rfl, hb⟩
          have TV3 : Hid (TVI w w3 vb g p0 p1 p2 x y 0) := TV.out.next hb
          clear hb c2
          by_cases hb9 : 9999 < v
          · have HF : Hid (¬ ∃ a b c, VvT (bl s) a b c) := fun ⟨a, b, c, hV⟩ => by have := vvT_part2 hV HPS.out; rw [← HV.out] at this; omega
            obtain ⟨⟨r0, r1, r2⟩, ⟨q0, q1, q2⟩, ⟨v0, v1, v2⟩, _, _, hB, hz1, hz2, _⟩ := TV3.out
            have HB : Hid (Below w.heap.size w _) := hB
            clear hB
            go_wp2
            (try rw [Exit.noGoto_ret])
            refine bodyPost_ret (v := .tuple #[.agg #[.int .i64 0, .int .i64 0, .int .i64 0], .bool false]) (by simp [results, Try.results54, go_sem, r0, r1, r2, q0, q1, q2]) rfl (.inr ⟨HF.out, rfl, ?_⟩)
            exact ((HB.out.setCell (by simp) _).setCell (by simp) _).setCell (by simp) _
          · obtain ⟨_, _, ⟨v0, v1, v2⟩, ⟨p0', p1', p2'⟩, _, _, hz1, hz2, _⟩ := TV3.out
            have TV4 : Hid (TVI w (w3.setCell ⟨vb, 2, none⟩ (.int .i64 v)) vb g p0 p1 p2 x y v) := TV3.out.set2
            have GP : Hid (GPt p2 v) := ⟨HNN.out, by rw [← HV.out]; omega, HV.out⟩
            go_wp2
            go_roundw
            case rel => first | exact ⟨3, x, y, v, by omega, by go_num, TV4.out, fun _ => HP0.out, fun _ => HP1.out, fun _ => GP.out, fun h => by omega, fun h => by omega, fun h => by omega⟩ | ((repeat apply Exists.intro); exact ⟨⟨3, x, y, v, by omega, by go_num, TV4.out, fun _ => HP0.out, fun _ => HP1.out, fun _ => GP.out, fun h => by omega, fun h => by omega, fun h => by omega⟩, rfl⟩)
            case measure => simp [intOf]
        · have HQ : Hid (∀ W : World, Calls Try.prog 67 #[.string p2] W fun e w' => N3P W e w') := fun W => l03num_no p2 W (by omega) hN
          have HNN : Hid (¬ (Num (bl p2) ∧ (bl p2).length ≤ 18)) := hN
          clear hN
          go_wp2_with fail
          refine (HQ.out _).mono ?_
          rintro e w3 ⟨v, rfl, hb⟩
          have TV3 : Hid (TVI w w3 vb g p0 p1 p2 x y 0) := TV.out.next hb
          clear hb c2
          have HF : Hid (¬ ∃ a b c, VvT (bl s) a b c) := fun ⟨a, b, c, hV⟩ => HNN.out (vvT_num2 hV HPS.out)
          obtain ⟨⟨r0, r1, r2⟩, ⟨q0, q1, q2⟩, ⟨v0, v1, v2⟩, _, _, hB, hz1, hz2, _⟩ := TV3.out
          have HB : Hid (Below w.heap.size w _) := hB
          clear hB
          go_wp2
          (try rw [Exit.noGoto_ret])
          refine bodyPost_ret (v := .tuple #[.agg #[.int .i64 0, .int .i64 0, .int .i64 0], .bool false]) (by simp [results, Try.results54, go_sem, r0, r1, r2, q0, q1, q2]) rfl (.inr ⟨HF.out, rfl, ?_⟩)
          exact ((HB.out.setCell (by simp) _).setCell (by simp) _).setCell (by simp) _
      · have HP0 : Hid (GPt p0 x) := g0 (by omega)
        have HP1 : Hid (GPt p1 y) := g1 (by omega)
        have HP2 : Hid (GPt p2 z) := g2 (by omega)
        have HF : Hid (VvT (bl s) (bl p0) (bl p1) (bl p2)) := cut_vvT HPS.out.symm ⟨HP0.out.1, HP0.out.2.1⟩ ⟨HP1.out.1, HP1.out.2.1⟩ ⟨HP2.out.1, HP2.out.2.1⟩
        obtain ⟨⟨r0, r1, r2⟩, ⟨q0, q1, q2⟩, ⟨v0, v1, v2⟩, _, _, hB, hz1, hz2, _⟩ := hTV
        have HB : Hid (Below w.heap.size w _) := hB
        clear hB g0 g1 g2 e0 e1 e2 TV0
        go_wp2
        (try rw [Exit.noGoto_ret])
        refine bodyPost_ret (v := .tuple #[.agg #[.int .i64 x, .int .i64 y, .int .i64 z], .bool true]) (by simp [results, Try.results54, go_sem, r0, r1, r2, q0, q1, q2]) rfl (.inl ⟨_, _, _, HF.out, by rw [← HP0.out.2.2, ← HP1.out.2.2, ← HP2.out.2.2], ?_⟩)
        exact ((HB.out.setCell (by simp) _).setCell (by simp) _).setCell (by simp) _
  · have HF : Hid (¬ ∃ a b c, VvT (bl s) a b c) := fun ⟨a, b, c, hV⟩ => h3 (by
      have h1 := HPS0.out
      rw [vvT_cut hV] at h1
      have := congrArg List.length h1
      simpa using this)
    have hne : ((ps.length : Int) != 3) = true := by rw [bne_iff_ne]; omega
    clear hC hSZ hPS HPS0 h3
    go_wp2
    refine bodyPost_ret (v := .tuple #[.agg #[.int .i64 0, .int .i64 0, .int .i64 0], .bool false]) (by simp [results, Try.results54, go_sem, r0, r1, r2, q0, q1, q2, hz]) rfl (.inr ⟨HF.out, rfl, ?_⟩)
    exact (((HB1.out.setCell (by simp) _).setCell (by simp) _).setCell (by simp) _).alloc (by simpa [World.setCell] using Nat.le_of_lt hz) _
end Go.Proofs.Ytodjbkeljfnebaa

/- Where quorums meet some replica that wrote is read. -/
import Derived.Test.YtaejbjekjlconaaRows
import Derived.WalkKit
import Derived.WalkSpells
import Derived.WalkLawsBesides
import Derived.Deep.QuietTactic
import Derived.BigQuiet
import Derived.Deep.RegionHeld3
import Derived.LoopN
namespace Go.Proofs.Ytaejbjekjlconaa
open Go.RowKit
set_option linter.unusedSimpArgs false
set_option linter.unusedVariables false

theorem ret_bool {a b : Bool} (h : a = b) : Ending.returned (.bool a) = .returned (.bool b) := by rw [h]
theorem ret_int {k : IntKind} {a b : Int} (h : a = b) : Ending.returned (.int k a) = .returned (.int k b) := by rw [h]
theorem ret_ints {a b c d : Int} (h : a = b) (k : c = d) : Ending.returned (.tuple #[.int .i64 a, .int .i64 c]) = .returned (.tuple #[.int .i64 b, .int .i64 d]) := by rw [h, k]
theorem ret_bint {a b : Bool} {c d : Int} (h : a = b) (k : c = d) : Ending.returned (.tuple #[.bool a, .int .i64 c]) = .returned (.tuple #[.bool b, .int .i64 d]) := by rw [h, k]
theorem ret_vint {a b c a' b' c' : Int} {r r' : Int} (h : a = a') (k : b = b') (l : c = c') (m : r = r') : Ending.returned (.tuple #[.agg #[.int .i64 a, .int .i64 b, .int .i64 c], .int .i64 r]) = .returned (.tuple #[.agg #[.int .i64 a', .int .i64 b', .int .i64 c'], .int .i64 r']) := by rw [h, k, l, m]
theorem ret_v {a b c a' b' c' : Int} (h : a = a') (k : b = b') (l : c = c') : Ending.returned (.agg #[.int .i64 a, .int .i64 b, .int .i64 c]) = .returned (.agg #[.int .i64 a', .int .i64 b', .int .i64 c']) := by rw [h, k, l]
theorem bcell {W w1 : World} (hb : Below W.heap.size W w1) : (∀ b o, b < W.heap.size → w1.cell? ⟨b, o, none⟩ = W.cell? ⟨b, o, none⟩) ∧ (∀ b o, b < W.heap.size → w1.frozen? ⟨b, o, none⟩ = W.frozen? ⟨b, o, none⟩) :=
  ⟨fun b o h => hb.cell (p := ⟨b, o, none⟩) h, fun b o h => hb.frozen (p := ⟨b, o, none⟩) h⟩
theorem cell_next {W w1 : World} (hb : Below W.heap.size W w1) {b o : Nat} {v : Value} (h : W.cell? ⟨b, o, none⟩ = some v) (hs : b < W.heap.size) : w1.cell? ⟨b, o, none⟩ = some v := by
  rw [hb.cell (p := ⟨b, o, none⟩) hs]; exact h
theorem cell_set {W : World} {b o t j : Nat} {v u : Value} (h : W.cell? ⟨b, o, none⟩ = some v) (hne : b ≠ t) : (W.setCell ⟨t, j, none⟩ u).cell? ⟨b, o, none⟩ = some v := by
  rw [World.cell?_of_block (w := W) (Below.heap_setCell W ⟨t, j, none⟩ u b (by simpa using hne))]; exact h
theorem frozen_next {W w1 : World} (hb : Below W.heap.size W w1) {b o : Nat} (h : W.frozen? ⟨b, o, none⟩ = false) (hs : b < W.heap.size) : w1.frozen? ⟨b, o, none⟩ = false := by
  rw [hb.frozen (p := ⟨b, o, none⟩) hs]; exact h
def Gen.IsRow (k : IntKind) (w : World) (a : Option Addr) (len cap : Nat) (zs : List Int) : Prop :=
  (a = none ∧ len = 0 ∧ cap = 0 ∧ zs = []) ∨
  ∃ x, a = some x ∧ len ≤ cap ∧ cap ≤ maxLen ∧ zs.length = cap ∧ (∀ i, i < zs.length → w.cell? (x.add i) = some (.int k (zs.getD i 0))) ∧ ∀ n ∈ zs, (Lit.int k n).wf = true

theorem add_block (x : Addr) (i : Nat) : (x.add i).block = x.block := by unfold Addr.add; split <;> rfl
theorem add_none (b off i : Nat) : (⟨b, off, none⟩ : Addr).add i = ⟨b, off + i, none⟩ := by
  unfold Addr.add
  by_cases h : i = 0 <;> simp [h]
theorem row_cell {W : World} {ao : Option Addr} {len cap : Nat} {zs : List Int} (hr : Gen.IsRow .u8 W ao len cap zs) (hl : 0 < len) : ∃ b off, ao = some ⟨b, off, none⟩ ∧ ∀ j, j < len → ∃ z : Int, 0 ≤ z ∧ z ≤ 255 ∧ W.cell? ⟨b, off + j, none⟩ = some (.int .u8 z) := by
  rcases hr with ⟨_, h, _⟩ | ⟨x, rfl, h1, h2, h3, h4, h5⟩
  · omega
  · obtain ⟨b, off, spot⟩ := x
    have c0 := h4 0 (by omega)
    have hspot : spot = none := by
      have := World.cell?_spot (a := _) (w := W) (by simpa [Addr.add] using c0)
      simpa using this
    subst hspot
    refine ⟨b, off, rfl, fun j hj => ⟨zs.getD j 0, ?_⟩⟩
    have hm : zs.getD j 0 ∈ zs := by
      rw [List.getD_eq_getElem?_getD, List.getElem?_eq_getElem (by omega)]
      exact List.getElem_mem _
    have hw := h5 _ hm
    have cj := h4 j (by omega)
    rw [add_none] at cj
    generalize zs.getD j 0 = z at *
    have hmin : IntKind.u8.min = 0 := by decide
    have hmax : IntKind.u8.max = 255 := by decide
    simp [Lit.wf, hmin, hmax] at hw
    exact ⟨by omega, by omega, cj⟩
/-- What a drawn number is. -/
def AtP (W : World) (n : Nat) (e : Ending) (w' : World) : Prop := ∃ r : Nat, e = .returned (.int .i64 (r : Int)) ∧ Below W.heap.size W w' ∧ (r < n ∨ r = 0)
set_option maxHeartbeats 4000000 in
theorem at_any (ao : Option Addr) (len cap : Nat) (zs : List Int) (i : Int) (n : Nat) (w : World) (hi0 : 0 ≤ i) (hi : i ≤ 2) (hn : n ≤ 1048576) (hl : len ≤ 1048576) (hr0 : Gen.IsRow .u8 w ao len cap zs) :
    Calls Try.prog 4 #[.slice ao len cap, .int .i64 i, .int .i64 (n : Int)] w fun e w' => AtP w n e w' := by
  by_cases h1 : n ≤ 1
  · have h1' : (n : Int) ≤ 1 := by omega
    go_enter Try.func4, Try.ntmps4
    go_wp2
    go_ret
    exact ⟨0, rfl, Below.refl _ _, .inr rfl⟩
  have h1' : ¬ (n : Int) ≤ 1 := by omega
  have hn0 : ¬ (n : Int) = 0 := by omega
  have hnb : ((n : Int) == 0) = false := beq_eq_false_iff_ne.2 hn0
  by_cases hz : len = 0
  · subst hz
    have q1 : IntKind.i64.wrap (i * 7) = i * 7 := by rw [IntKind.wrap_i64]; omega
    obtain ⟨r, hr⟩ : ∃ r : Nat, (i * 7).tmod (n : Int) = (r : Int) := ⟨((i * 7) % (n : Int)).toNat, by rw [Int.tmod_eq_emod_of_nonneg (by omega)]; have := Int.emod_nonneg (i * 7) hn0; omega⟩
    have hrl : r < n := by
      have h2 := Int.emod_lt_of_pos (i * 7) (show (0 : Int) < (n : Int) by omega)
      rw [Int.tmod_eq_emod_of_nonneg (by omega)] at hr
      omega
    have q2 : IntKind.i64.wrap (r : Int) = (r : Int) := by rw [IntKind.wrap_i64]; omega
    go_enter Try.func4, Try.ntmps4
    go_wp2
    go_ret
    exact ⟨r, rfl, Below.refl _ _, .inl hrl⟩
  have hl0 : ¬ (len : Int) = 0 := by omega
  have hlb : ((len : Int) == 0) = false := beq_eq_false_iff_ne.2 hl0
  obtain ⟨b, off, rfl, hcell⟩ := row_cell hr0 (by omega)
  obtain ⟨a1, ha1, hb1⟩ : ∃ a1 : Nat, i.tmod (len : Int) = (a1 : Int) ∧ a1 < len := ⟨(i % (len : Int)).toNat, by rw [Int.tmod_eq_emod_of_nonneg hi0]; have := Int.emod_nonneg i hl0; omega, by have := Int.emod_lt_of_pos i (show (0 : Int) < (len : Int) by omega); have := Int.emod_nonneg i hl0; omega⟩
  obtain ⟨a2, ha2, hb2⟩ : ∃ a2 : Nat, (i + 1).tmod (len : Int) = (a2 : Int) ∧ a2 < len := ⟨((i + 1) % (len : Int)).toNat, by rw [Int.tmod_eq_emod_of_nonneg (by omega)]; have := Int.emod_nonneg (i + 1) hl0; omega, by have := Int.emod_lt_of_pos (i + 1) (show (0 : Int) < (len : Int) by omega); have := Int.emod_nonneg (i + 1) hl0; omega⟩
  obtain ⟨a3, ha3, hb3⟩ : ∃ a3 : Nat, i.tdiv (len : Int) = (a3 : Int) ∧ a3 ≤ 2 := ⟨(i / (len : Int)).toNat, by rw [Int.tdiv_eq_ediv_of_nonneg hi0]; have := Int.ediv_nonneg hi0 (show (0 : Int) ≤ (len : Int) by omega); omega, by have := Int.ediv_le_self (len : Int) hi0; omega⟩
  obtain ⟨z1, p1, p1', x1⟩ := hcell a1 hb1
  obtain ⟨z2, p2, p2', x2⟩ := hcell a2 hb2
  have k1 : (0 : Int) ≤ (a1 : Int) := by omega
  have k1' : (a1 : Int) < (len : Int) := by omega
  have k2 : (0 : Int) ≤ (a2 : Int) := by omega
  have k2' : (a2 : Int) < (len : Int) := by omega
  have q0 : IntKind.i64.wrap (i + 1) = i + 1 := by rw [IntKind.wrap_i64]; omega
  have q1 : IntKind.i64.wrap (a1 : Int) = (a1 : Int) := by rw [IntKind.wrap_i64]; omega
  have q2 : IntKind.i64.wrap (a2 : Int) = (a2 : Int) := by rw [IntKind.wrap_i64]; omega
  have q3 : IntKind.i64.wrap (a3 : Int) = (a3 : Int) := by rw [IntKind.wrap_i64]; omega
  have q4 : IntKind.i64.wrap z1 = z1 := by rw [IntKind.wrap_i64]; omega
  have q5 : IntKind.i64.wrap z2 = z2 := by rw [IntKind.wrap_i64]; omega
  have q6 : IntKind.i64.wrap (z1 * 31) = z1 * 31 := by rw [IntKind.wrap_i64]; omega
  have q7 : IntKind.i64.wrap (z1 * 31 + z2) = z1 * 31 + z2 := by rw [IntKind.wrap_i64]; omega
  have q8 : IntKind.i64.wrap (z1 * 31 + z2 + (a3 : Int)) = z1 * 31 + z2 + (a3 : Int) := by rw [IntKind.wrap_i64]; omega
  obtain ⟨r, hr, hrl⟩ : ∃ r : Nat, (z1 * 31 + z2 + (a3 : Int)).tmod (n : Int) = (r : Int) ∧ r < n := ⟨((z1 * 31 + z2 + (a3 : Int)) % (n : Int)).toNat, by rw [Int.tmod_eq_emod_of_nonneg (by omega)]; have := Int.emod_nonneg (z1 * 31 + z2 + (a3 : Int)) hn0; omega, by have := Int.emod_lt_of_pos (z1 * 31 + z2 + (a3 : Int)) (show (0 : Int) < (n : Int) by omega); have := Int.emod_nonneg (z1 * 31 + z2 + (a3 : Int)) hn0; omega⟩
  have q9 : IntKind.i64.wrap (r : Int) = (r : Int) := by rw [IntKind.wrap_i64]; omega
  clear hcell hr0
  go_enter Try.func4, Try.ntmps4
  go_wp2
  go_quiet (fail)
  go_wp2
  go_ret
  exact ⟨r, rfl, below_drewN (Below.refl _ _) _, .inl hrl⟩

def QmOK (n r m : Int) : Prop := (1 ≤ n ∧ n ≤ 100) ∧ (0 ≤ r ∧ r ≤ n) ∧ (0 ≤ m ∧ m ≤ n)
/-- What QuorumMeets answers: whether r and m together are above n, and a code. -/
def QmA (n r m : Int) (b : Bool) (c : Int) : Prop := (QmOK n r m ∧ b = decide (n < r + m) ∧ c = 0) ∨ (¬ QmOK n r m ∧ b = false ∧ c = 4)

set_option maxHeartbeats 2000000 in
theorem implQm_any (n r m : Int) (b : Bool) (c : Int) (hq : QmA n r m b c) (w : World) :
    Calls Try.prog 5 #[.int .i64 n, .int .i64 r, .int .i64 m] w fun e w' => e = .returned (.tuple #[.bool b, .int .i64 c]) ∧ Below w.heap.size w w' := by
  by_cases a1 : n < 1
  · rcases hq with ⟨⟨⟨n1, n2⟩, ⟨r1, r2⟩, m1, m2⟩, rfl, rfl⟩ | ⟨hn, rfl, rfl⟩
    · omega
    clear hn
    go_enter Try.func5, Try.ntmps5
    go_wp2
    go_ret2
    exact ⟨by first | rfl | simp, Below.refl _ _⟩
  by_cases a2 : 100 < n
  · rcases hq with ⟨⟨⟨n1, n2⟩, ⟨r1, r2⟩, m1, m2⟩, rfl, rfl⟩ | ⟨hn, rfl, rfl⟩
    · omega
    clear hn
    go_enter Try.func5, Try.ntmps5
    go_wp2
    go_ret2
    exact ⟨by first | rfl | simp, Below.refl _ _⟩
  by_cases a3 : r < 0
  · rcases hq with ⟨⟨⟨n1, n2⟩, ⟨r1, r2⟩, m1, m2⟩, rfl, rfl⟩ | ⟨hn, rfl, rfl⟩
    · omega
    clear hn
    go_enter Try.func5, Try.ntmps5
    go_wp2
    go_ret2
    exact ⟨by first | rfl | simp, Below.refl _ _⟩
  by_cases a4 : n < r
  · rcases hq with ⟨⟨⟨n1, n2⟩, ⟨r1, r2⟩, m1, m2⟩, rfl, rfl⟩ | ⟨hn, rfl, rfl⟩
    · omega
    clear hn
    go_enter Try.func5, Try.ntmps5
    go_wp2
    go_ret2
    exact ⟨by first | rfl | simp, Below.refl _ _⟩
  by_cases a5 : m < 0
  · rcases hq with ⟨⟨⟨n1, n2⟩, ⟨r1, r2⟩, m1, m2⟩, rfl, rfl⟩ | ⟨hn, rfl, rfl⟩
    · omega
    clear hn
    go_enter Try.func5, Try.ntmps5
    go_wp2
    go_ret2
    exact ⟨by first | rfl | simp, Below.refl _ _⟩
  by_cases a6 : n < m
  · rcases hq with ⟨⟨⟨n1, n2⟩, ⟨r1, r2⟩, m1, m2⟩, rfl, rfl⟩ | ⟨hn, rfl, rfl⟩
    · omega
    clear hn
    go_enter Try.func5, Try.ntmps5
    go_wp2
    go_ret2
    exact ⟨by first | rfl | simp, Below.refl _ _⟩
  rcases hq with ⟨⟨⟨n1, n2⟩, ⟨r1, r2⟩, m1, m2⟩, rfl, rfl⟩ | ⟨hn, rfl, rfl⟩
  · have q : IntKind.i64.wrap (r + m) = r + m := by rw [IntKind.wrap_i64]; omega
    clear n1 n2 r1 r2 m1 m2
    go_enter Try.func5, Try.ntmps5
    go_wp2
    go_ret2
    exact ⟨by first | rfl | simp, Below.refl _ _⟩
  · exact (hn ⟨⟨by omega, by omega⟩, ⟨by omega, by omega⟩, by omega, by omega⟩).elim
theorem QmA.is (n r m : Int) : ∃ b c, QmA n r m b c := by
  by_cases h : QmOK n r m
  · exact ⟨_, _, .inl ⟨h, rfl, rfl⟩⟩
  · exact ⟨_, _, .inr ⟨h, rfl, rfl⟩⟩

/-- Among the first i some one is below m and not below n - r. -/
def Meet (n r m : Int) (i : Nat) : Prop := ∃ j : Nat, j < i ∧ (j : Int) < m ∧ n - r ≤ (j : Int)
theorem meet_next {n r m : Int} {i : Nat} {b : Bool} (h : b = true ↔ Meet n r m i) : (b || (decide ((i : Int) < m) && decide (n - r ≤ (i : Int)))) = true ↔ Meet n r m (i + 1) := by
  simp only [Bool.or_eq_true, h, Bool.and_eq_true, decide_eq_true_eq]
  constructor
  · rintro (⟨j, h1, h2⟩ | h)
    · exact ⟨j, by omega, h2⟩
    · exact ⟨i, by omega, h⟩
  · rintro ⟨j, h1, h2⟩
    by_cases e : j = i
    · subst e; exact .inr h2
    · exact .inl ⟨j, by omega, h2⟩
theorem meet_end {n r m : Nat} {b : Bool} (h1 : 1 ≤ n) (hr : r ≤ n) (hm : m ≤ n) (h : b = true ↔ Meet (n : Int) r m n) : b = decide ((n : Int) < (r : Int) + (m : Int)) := by
  have : Meet (n : Int) r m n ↔ (n : Int) < (r : Int) + (m : Int) := by
    constructor
    · rintro ⟨j, a, b, c⟩
      omega
    · intro q
      exact ⟨n - r, by omega, by omega, by omega⟩
  rw [this] at h
  cases b
  · simp at h; simp; omega
  · simp at h; simp; omega
theorem isRow_next {W W' : World} {ao : Option Addr} {len cap : Nat} {zs : List Int} (h : Gen.IsRow .u8 W ao len cap zs) (hb : Below W.heap.size W W') : Gen.IsRow .u8 W' ao len cap zs := by
  rcases h with h | ⟨x, rfl, h1, h2, h3, h4, h5⟩
  · exact .inl h
  · refine .inr ⟨x, rfl, h1, h2, h3, fun j hj => ?_, h5⟩
    have := h4 j hj
    have hlt : (x.add j).block < W.heap.size := by
      rcases Nat.lt_or_ge (x.add j).block W.heap.size with h' | h'
      · exact h'
      · simp [World.cell?, Array.getElem?_eq_none h'] at this
    rw [hb.cell hlt]
    exact this
theorem at_k (ao : Option Addr) (len cap : Nat) (zs : List Int) (i k : Int) (n : Nat) (w : World) (hk : k = (n : Int)) (hi0 : 0 ≤ i) (hi : i ≤ 2) (hn : n ≤ 1048576) (hl : len ≤ 1048576) (hr0 : Gen.IsRow .u8 w ao len cap zs) :
    Calls Try.prog 4 #[.slice ao len cap, .int .i64 i, .int .i64 k] w fun e w' => AtP w n e w' := by
  subst hk
  exact at_any ao len cap zs i n w hi0 hi hn hl hr0
set_option maxHeartbeats 1000000 in
theorem law_quorum (w : World) (ao : Option Addr) (len cap : Nat) (zs : List Int) (hr0 : Gen.IsRow .u8 w ao len cap zs) (bo : Option Addr) (ln cp : Nat) (ys : List Int) (hs0 : Gen.IsRow .u8 w bo ln cp ys) :
    Calls Try.prog 3 #[.slice ao len cap, .slice bo ln cp] w fun e w' => e = .returned (.bool true) ∧ Below w.heap.size w w' := by
  by_cases hl : 1048576 < len
  · have hl' : (1048576 : Int) < (len : Int) := by omega
    clear hr0 hs0
    go_enter Try.func3, Try.ntmps3
    go_wp2
    go_ret
    exact ⟨rfl, Below.refl _ _⟩
  have hl' : ¬ (1048576 : Int) < (len : Int) := by omega
  by_cases hk : 1048576 < ln
  · have hk' : (1048576 : Int) < (ln : Int) := by omega
    clear hr0 hs0
    go_enter Try.func3, Try.ntmps3
    go_wp2
    go_ret
    exact ⟨rfl, Below.refl _ _⟩
  have hk' : ¬ (1048576 : Int) < (ln : Int) := by omega
  have RA : Hid (Gen.IsRow .u8 w ao len cap zs) := hr0
  have RB : Hid (Gen.IsRow .u8 w bo ln cp ys) := hs0
  clear hr0 hs0
  go_enter Try.func3, Try.ntmps3
  go_wp2_with fail
  refine (at_k ao len cap zs 0 8 8 _ rfl (by omega) (by omega) (by omega) (by omega) RA.out).mono ?_
  rintro e w1 ⟨n0, rfl, hb, hn0⟩
  have HB : Hid (Below w.heap.size w w1) := hb
  replace RA : Hid _ := isRow_next RA.out hb
  replace RB : Hid _ := isRow_next RB.out hb
  have e1 : IntKind.i64.wrap (1 + (n0 : Int)) = ((n0 + 1 : Nat) : Int) := by rw [IntKind.wrap_i64]; omega
  have e1' : IntKind.i64.wrap ((n0 : Int) + 1) = ((n0 + 1 : Nat) : Int) := by rw [IntKind.wrap_i64]; omega
  obtain ⟨n, hn⟩ : ∃ n, n = n0 + 1 := ⟨_, rfl⟩
  rw [← hn] at e1 e1'
  have hn1 : 1 ≤ n := by omega
  have hn8 : n ≤ 8 := by omega
  clear hb hn hn0
  go_wp2_with fail
  refine (at_k ao len cap zs 1 ((n : Int) + 1) (n + 1) _ (by omega) (by omega) (by omega) (by omega) (by omega) RA.out).mono ?_
  rintro e w2 ⟨r, rfl, hb, hr⟩
  replace HB : Hid _ := HB.out.trans (hb.mono HB.out.size)
  replace RB : Hid _ := isRow_next RB.out hb
  have hrn : r ≤ n := by omega
  clear hb RA hr
  go_wp2_with fail
  refine (at_k bo ln cp ys 0 ((n : Int) + 1) (n + 1) _ (by omega) (by omega) (by omega) (by omega) (by omega) RB.out).mono ?_
  rintro e w3 ⟨m, rfl, hb, hm⟩
  replace HB : Hid _ := HB.out.trans (hb.mono HB.out.size)
  have hmn : m ≤ n := by omega
  clear hb RB hm
  have C1 : Hid _ := fun w => implQm_any n r m (decide ((n : Int) < (r : Int) + (m : Int))) 0 (.inl ⟨⟨⟨by omega, by omega⟩, ⟨by omega, by omega⟩, by omega, by omega⟩, rfl, rfl⟩) w
  have C2 : Hid _ := fun w => implQm_any n ((n : Int) + 1) m false 4 (.inr ⟨fun h => by have := h.2.1.2; omega, rfl, rfl⟩) w
  have HM : Hid (∀ b : Bool, (b = true ↔ Meet (n : Int) r m n) → b = decide ((n : Int) < (r : Int) + (m : Int))) := fun b h => meet_end hn1 hrn hmn h
  have e3 : IntKind.i64.wrap ((n : Int) - (r : Int)) = (n : Int) - (r : Int) := by rw [IntKind.wrap_i64]; omega
  generalize HD : decide ((n : Int) < (r : Int) + (m : Int)) = d at *
  clear HD
  go_wp2_with fail
  refine (Calls.mono (C1.out _) ?_)
  rintro e w4 ⟨rfl, hb⟩
  replace HB : Hid _ := HB.out.trans (hb.mono HB.out.size)
  clear hb C1
  go_wp2
  go_loopw [10, 11] (fun s10 s11 wr => ∃ (i : Nat) (b : Bool), i ≤ n ∧ s11 = .int .i64 i ∧ s10 = .bool b ∧ Hid (b = true ↔ Meet (n : Int) r m i) ∧ wr = w4) (fun _ s11 _ => n - (intOf s11).toNat)
  case atStart => exact ⟨0, false, by omega, rfl, rfl, ⟨fun h => Bool.noConfusion h, fun ⟨j, h, _⟩ => by omega⟩, rfl⟩
  case round =>
    obtain ⟨i, b, hi, rfl, rfl, hM, rfl⟩ := hrel
    by_cases hlt : i < n
    · have hlt' : (i : Int) < (n : Int) := by omega
      have HX : Hid ((b || (decide ((i : Int) < (m : Int)) && decide ((n : Int) - (r : Int) ≤ (i : Int)))) = true ↔ Meet (n : Int) r m (i + 1)) := meet_next hM.out
      cases b
      · by_cases q1 : (i : Int) < (m : Int)
        · by_cases q2 : (n : Int) - (r : Int) ≤ (i : Int)
          · go_wp2
            go_roundw
            case rel => exact ⟨i + 1, true, by omega, by go_num, rfl, by have := HX.out; show _ ↔ _; simpa [q1, q2] using this, by first | rfl | trivial⟩
            case measure => simp [intOf]; omega
          · go_wp2
            go_roundw
            case rel => exact ⟨i + 1, false, by omega, by go_num, rfl, by have := HX.out; show _ ↔ _; simpa [q1, q2] using this, by first | rfl | trivial⟩
            case measure => simp [intOf]; omega
        · go_wp2
          go_roundw
          case rel => exact ⟨i + 1, false, by omega, by go_num, rfl, by have := HX.out; show _ ↔ _; simpa [q1] using this, by first | rfl | trivial⟩
          case measure => simp [intOf]; omega
      · go_wp2
        go_roundw
        case rel => exact ⟨i + 1, true, by omega, by go_num, rfl, by have := HX.out; show _ ↔ _; simpa using this, by first | rfl | trivial⟩
        case measure => simp [intOf]; omega
    · have hlt' : ¬ (i : Int) < (n : Int) := by omega
      have hin : i = n := by omega
      subst hin
      obtain rfl := HM.out b hM.out
      clear HM hM
      go_wp2_with fail
      refine (Calls.mono (C2.out _) ?_)
      rintro e w5 ⟨rfl, hb⟩
      replace HB : Hid _ := HB.out.trans (hb.mono HB.out.size)
      clear hb C2
      cases b
      all_goals
        go_wp2
        go_ret
        exact ⟨rfl, HB.out⟩

end Go.Proofs.Ytaejbjekjlconaa

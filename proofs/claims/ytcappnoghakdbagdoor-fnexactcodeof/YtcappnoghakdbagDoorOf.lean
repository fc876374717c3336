/- The law FnExactCodeOf answers true at every text, the table of words being what the program's text lays. -/
import Derived.Test.YtcappnoghakdbagDoorRows
import Derived.Test.YtcappnoghakdbagDoorW
import Derived.Test.YtcappnoghakdbagDoorT
import Derived.Test.YtcappnoghakdbagDoorWL
import Derived.WalkKit
import Derived.WalkSpells
import Derived.WalkLawsBesides
import Derived.LoopN
namespace Go.Proofs.YtcappnoghakdbagDoor
open Go.RowKit
set_option linter.unusedSimpArgs false
set_option linter.unusedVariables false

theorem ret_int {k : IntKind} {a b : Int} (h : a = b) : Ending.returned (.int k a) = .returned (.int k b) := by rw [h]
def wd (i : Nat) : ByteArray := ⟨(wl.getD i []).toArray⟩
def hit (s : ByteArray) (i : Nat) : Bool := (wd i).toList == s.toList
/-- The number that a word has: the first place where it stands. -/
def Found (s : ByteArray) (r : Int) : Prop := (∃ k : Nat, k < 20 ∧ r = k ∧ hit s k = true ∧ ∀ j, j < k → hit s j = false) ∨ (r = -1 ∧ ∀ j, j < 20 → hit s j = false)
theorem found_any (s : ByteArray) : ∃ r, Found s r := by
  suffices h : ∀ n, n ≤ 20 → (∃ k : Nat, k < n ∧ hit s k = true ∧ ∀ j, j < k → hit s j = false) ∨ (∀ j, j < n → hit s j = false) by
    rcases h 20 (Nat.le_refl _) with ⟨k, h1, h2, h3⟩ | h1
    · exact ⟨k, Or.inl ⟨k, h1, rfl, h2, h3⟩⟩
    · exact ⟨-1, Or.inr ⟨rfl, h1⟩⟩
  intro n
  induction n with
  | zero => intro _; exact Or.inr (fun j hj => by omega)
  | succ n ih =>
    intro hn
    rcases ih (by omega) with ⟨k, h1, h2, h3⟩ | h1
    · exact Or.inl ⟨k, by omega, h2, h3⟩
    · cases h : hit s n
      · exact Or.inr (fun j hj => by
          rcases Nat.lt_or_ge j n with h' | h'
          · exact h1 j h'
          · rw [show j = n from by omega]; exact h)
      · exact Or.inl ⟨n, by omega, h, h1⟩
theorem found_at {s : ByteArray} {r : Int} (hf : Hid (Found s r)) {k : Nat} (hk : k < 20) (h : hit s k = true) (hn : ∀ j, j < k → hit s j = false) : r = k := by
  rcases hf.out with ⟨m, m1, m2, m3, m4⟩ | ⟨m1, m2⟩
  · rcases Nat.lt_trichotomy m k with q | q | q
    · rw [hn m q] at m3; cases m3
    · rw [m2, q]
    · rw [m4 k q] at h; cases h
  · rw [m2 k hk] at h; cases h
theorem found_no {s : ByteArray} {r : Int} (hf : Hid (Found s r)) (hn : ∀ j, j < 20 → hit s j = false) : r = -1 := by
  rcases hf.out with ⟨m, m1, m2, m3, m4⟩ | ⟨m1, m2⟩
  · rw [hn m m1] at m3; cases m3
  · exact m1

theorem spec_word_all (k : Nat) (hk : k < 20) (w : World) : Calls Tryd.prog 5 #[.int .i64 (k : Int)] w fun e w' => e = .returned (.string (wd k)) ∧ Below w.heap.size w w' := by
  obtain ⟨n, hn⟩ : ∃ n : Int, n = (k : Int) := ⟨_, rfl⟩
  have hc : k = 0 ∨ k = 1 ∨ k = 2 ∨ k = 3 ∨ k = 4 ∨ k = 5 ∨ k = 6 ∨ k = 7 ∨ k = 8 ∨ k = 9 ∨ k = 10 ∨ k = 11 ∨ k = 12 ∨ k = 13 ∨ k = 14 ∨ k = 15 ∨ k = 16 ∨ k = 17 ∨ k = 18 ∨ k = 19 := by omega
  rw [← hn]
  rcases hc with h | h | h | h | h | h | h | h | h | h | h | h | h | h | h | h | h | h | h | h <;> (subst h; simp at hn; subst hn)
  · exact spec_word_0 w
  · exact spec_word_1 w
  · exact spec_word_2 w
  · exact spec_word_3 w
  · exact spec_word_4 w
  · exact spec_word_5 w
  · exact spec_word_6 w
  · exact spec_word_7 w
  · exact spec_word_8 w
  · exact spec_word_9 w
  · exact spec_word_10 w
  · exact spec_word_11 w
  · exact spec_word_12 w
  · exact spec_word_13 w
  · exact spec_word_14 w
  · exact spec_word_15 w
  · exact spec_word_16 w
  · exact spec_word_17 w
  · exact spec_word_18 w
  · exact spec_word_19 w

set_option maxHeartbeats 1000000 in
theorem spec_of (s : ByteArray) (r : Int) (hf : Hid (Found s r)) (w : World) :
    Calls Tryd.prog 7 #[.string s] w fun e w' => e = .returned (.int .i64 r) ∧ Below w.heap.size w w' := by
  go_enter Tryd.func7, Tryd.ntmps7
  go_wp2
  go_loopw [3] (fun i wr => ∃ k : Nat, k ≤ 20 ∧ i = .int .i64 k ∧ (∀ j, j < k → hit s j = false) ∧ Below w.heap.size w wr) (fun i _ => 20 - (intOf i).toNat)
  case atStart => exact ⟨0, by omega, rfl, fun j hj => by omega, Below.refl _ _⟩
  case round =>
    obtain ⟨k, hk, rfl, hn0, hB0⟩ := hrel
    have hn : Hid (∀ j, j < k → hit s j = false) := hn0
    have hB : Hid (Below w.heap.size w wr) := hB0
    clear hn0 hB0
    by_cases hlt : k < 20
    · have hlt' : (k : Int) ≤ 19 := by omega
      cases hh : hit s k
      · have hh' : ((wd k).toList == s.toList) = false := hh
        go_wp2_with fail
        refine (spec_word_all k hlt _).mono ?_
        rintro e w1 ⟨rfl, hb⟩
        have hB1 : Hid (Below w.heap.size w w1) := hB.out.trans (hb.mono hB.out.size)
        clear hb hh
        go_wp2_with fail
        go_roundw
        case rel => exact ⟨k + 1, by omega, by go_num, fun j hj => by
          rcases Nat.lt_or_ge j k with h' | h'
          · exact hn.out j h'
          · rw [show j = k from by omega]; exact hh', hB1.out⟩
        case measure => simp [intOf]; omega
      · have hh' : ((wd k).toList == s.toList) = true := hh
        have HR : Hid (r = k) := found_at hf hlt hh hn.out
        clear hh
        go_wp2_with fail
        refine (spec_word_all k hlt _).mono ?_
        rintro e w1 ⟨rfl, hb⟩
        have hB1 : Hid (Below w.heap.size w w1) := hB.out.trans (hb.mono hB.out.size)
        clear hb
        go_wp2_with fail
        go_ret
        exact ⟨ret_int HR.out.symm, hB1.out⟩
    · have hlt' : ¬ (k : Int) ≤ 19 := by omega
      have HR : Hid (r = -1) := found_no hf (fun j hj => hn.out j (by omega))
      go_wp2
      go_ret
      exact ⟨ret_int HR.out.symm, hB.out⟩

def arr : Array Value := #[.string ⟨#[111, 107]⟩, .string ⟨#[98, 97, 100]⟩, .string ⟨#[108, 111, 110, 103]⟩, .string ⟨#[102, 111, 114, 109]⟩, .string ⟨#[114, 97, 110, 103, 101]⟩, .string ⟨#[110, 111, 110, 101]⟩, .string ⟨#[109, 97, 110, 121]⟩, .string ⟨#[102, 117, 108, 108]⟩, .string ⟨#[107, 101, 121]⟩, .string ⟨#[111, 119, 110, 101, 114]⟩, .string ⟨#[100, 111, 119, 110]⟩, .string ⟨#[117, 112]⟩, .string ⟨#[102, 101, 110, 99, 101, 100]⟩, .string ⟨#[113, 117, 111, 114, 117, 109]⟩, .string ⟨#[115, 117, 109]⟩, .string ⟨#[116, 111, 114, 110]⟩, .string ⟨#[99, 117, 116]⟩, .string ⟨#[111, 114, 100, 101, 114]⟩, .string ⟨#[110, 97, 109, 101]⟩, .string ⟨#[99, 108, 111, 115, 101, 100]⟩]
theorem ix0 (w : World) : (Instr.index 27 (.agg arr) (.int .i64 0)).run Tryd.prog w = .ok (.string ⟨#[111, 107]⟩) w := by kernel_rfl
theorem ix1 (w : World) : (Instr.index 27 (.agg arr) (.int .i64 1)).run Tryd.prog w = .ok (.string ⟨#[98, 97, 100]⟩) w := by kernel_rfl
theorem ix2 (w : World) : (Instr.index 27 (.agg arr) (.int .i64 2)).run Tryd.prog w = .ok (.string ⟨#[108, 111, 110, 103]⟩) w := by kernel_rfl
theorem ix3 (w : World) : (Instr.index 27 (.agg arr) (.int .i64 3)).run Tryd.prog w = .ok (.string ⟨#[102, 111, 114, 109]⟩) w := by kernel_rfl
theorem ix4 (w : World) : (Instr.index 27 (.agg arr) (.int .i64 4)).run Tryd.prog w = .ok (.string ⟨#[114, 97, 110, 103, 101]⟩) w := by kernel_rfl
theorem ix5 (w : World) : (Instr.index 27 (.agg arr) (.int .i64 5)).run Tryd.prog w = .ok (.string ⟨#[110, 111, 110, 101]⟩) w := by kernel_rfl
theorem ix6 (w : World) : (Instr.index 27 (.agg arr) (.int .i64 6)).run Tryd.prog w = .ok (.string ⟨#[109, 97, 110, 121]⟩) w := by kernel_rfl
theorem ix7 (w : World) : (Instr.index 27 (.agg arr) (.int .i64 7)).run Tryd.prog w = .ok (.string ⟨#[102, 117, 108, 108]⟩) w := by kernel_rfl
theorem ix8 (w : World) : (Instr.index 27 (.agg arr) (.int .i64 8)).run Tryd.prog w = .ok (.string ⟨#[107, 101, 121]⟩) w := by kernel_rfl
theorem ix9 (w : World) : (Instr.index 27 (.agg arr) (.int .i64 9)).run Tryd.prog w = .ok (.string ⟨#[111, 119, 110, 101, 114]⟩) w := by kernel_rfl
theorem ix10 (w : World) : (Instr.index 27 (.agg arr) (.int .i64 10)).run Tryd.prog w = .ok (.string ⟨#[100, 111, 119, 110]⟩) w := by kernel_rfl
theorem ix11 (w : World) : (Instr.index 27 (.agg arr) (.int .i64 11)).run Tryd.prog w = .ok (.string ⟨#[117, 112]⟩) w := by kernel_rfl
theorem ix12 (w : World) : (Instr.index 27 (.agg arr) (.int .i64 12)).run Tryd.prog w = .ok (.string ⟨#[102, 101, 110, 99, 101, 100]⟩) w := by kernel_rfl
theorem ix13 (w : World) : (Instr.index 27 (.agg arr) (.int .i64 13)).run Tryd.prog w = .ok (.string ⟨#[113, 117, 111, 114, 117, 109]⟩) w := by kernel_rfl
theorem ix14 (w : World) : (Instr.index 27 (.agg arr) (.int .i64 14)).run Tryd.prog w = .ok (.string ⟨#[115, 117, 109]⟩) w := by kernel_rfl
theorem ix15 (w : World) : (Instr.index 27 (.agg arr) (.int .i64 15)).run Tryd.prog w = .ok (.string ⟨#[116, 111, 114, 110]⟩) w := by kernel_rfl
theorem ix16 (w : World) : (Instr.index 27 (.agg arr) (.int .i64 16)).run Tryd.prog w = .ok (.string ⟨#[99, 117, 116]⟩) w := by kernel_rfl
theorem ix17 (w : World) : (Instr.index 27 (.agg arr) (.int .i64 17)).run Tryd.prog w = .ok (.string ⟨#[111, 114, 100, 101, 114]⟩) w := by kernel_rfl
theorem ix18 (w : World) : (Instr.index 27 (.agg arr) (.int .i64 18)).run Tryd.prog w = .ok (.string ⟨#[110, 97, 109, 101]⟩) w := by kernel_rfl
theorem ix19 (w : World) : (Instr.index 27 (.agg arr) (.int .i64 19)).run Tryd.prog w = .ok (.string ⟨#[99, 108, 111, 115, 101, 100]⟩) w := by kernel_rfl
theorem ix_all (k : Nat) (hk : k < 20) (w : World) : (Instr.index 27 (.agg arr) (.int .i64 (k : Int))).run Tryd.prog w = .ok (.string (wd k)) w := by
  have hc : k = 0 ∨ k = 1 ∨ k = 2 ∨ k = 3 ∨ k = 4 ∨ k = 5 ∨ k = 6 ∨ k = 7 ∨ k = 8 ∨ k = 9 ∨ k = 10 ∨ k = 11 ∨ k = 12 ∨ k = 13 ∨ k = 14 ∨ k = 15 ∨ k = 16 ∨ k = 17 ∨ k = 18 ∨ k = 19 := by omega
  rcases hc with rfl | rfl | rfl | rfl | rfl | rfl | rfl | rfl | rfl | rfl | rfl | rfl | rfl | rfl | rfl | rfl | rfl | rfl | rfl | rfl
  · exact ix0 w
  · exact ix1 w
  · exact ix2 w
  · exact ix3 w
  · exact ix4 w
  · exact ix5 w
  · exact ix6 w
  · exact ix7 w
  · exact ix8 w
  · exact ix9 w
  · exact ix10 w
  · exact ix11 w
  · exact ix12 w
  · exact ix13 w
  · exact ix14 w
  · exact ix15 w
  · exact ix16 w
  · exact ix17 w
  · exact ix18 w
  · exact ix19 w

def HoldsB (W : World) : Prop := ∃ t fr, W.heap[0]? = some (.cells arr t fr)
theorem arr_at (i : Nat) (hi : i < 20) : arr[i]? = some (.string (wd i)) := by
  have hc : i = 0 ∨ i = 1 ∨ i = 2 ∨ i = 3 ∨ i = 4 ∨ i = 5 ∨ i = 6 ∨ i = 7 ∨ i = 8 ∨ i = 9 ∨ i = 10 ∨ i = 11 ∨ i = 12 ∨ i = 13 ∨ i = 14 ∨ i = 15 ∨ i = 16 ∨ i = 17 ∨ i = 18 ∨ i = 19 := by omega
  rcases hc with rfl | rfl | rfl | rfl | rfl | rfl | rfl | rfl | rfl | rfl | rfl | rfl | rfl | rfl | rfl | rfl | rfl | rfl | rfl | rfl <;> rfl
theorem of_laidB {W : World} (h : laidMetH Tryd.prog laidW W) : HoldsB W := by
  have hcs := of_laid h
  rw [MakeChecks.laidMetH_plain _ _ _ (by kernel_rfl)] at h
  obtain ⟨ps, ⟨g0, t0, cs0, f0, p0, q0, hg0, ht0, hv0, hd0, _, _⟩, _, _⟩ := h
  obtain rfl : g0 = 0 := Option.some.inj (hg0.symm.trans (by kernel_rfl))
  obtain rfl := Option.some.inj (tW.symm.trans ht0)
  obtain ⟨xs, m1, rfl, hx1, hlen, hn, hel⟩ := DataW.trod_array Tryd.underlying27 hd0
  have c27 : Tryd.prog.cellsOf 27 = 20 := by kernel_rfl
  rw [c27] at hlen
  have hsz : cs0.size = 20 := by simpa using hlen
  have hcell : ∀ i, i < 20 → cs0[i]? = some (.string (wd i)) := fun i hi => by
    rw [← World.var?_cell hg0 hv0 i]; exact hcs i hi
  have he : cs0 = arr := by
    apply Array.ext_getElem?
    intro i
    rcases Nat.lt_or_ge i 20 with q | q
    · rw [hcell i q, arr_at i q]
    · rw [Array.getElem?_eq_none (by omega), Array.getElem?_eq_none (by show 20 ≤ i; exact q)]
  unfold World.var? at hv0
  simp only [hg0, Option.bind_some] at hv0
  rw [he] at hv0
  split at hv0
  · rename_i cs t fr hq
    exact ⟨t, fr, by rw [hq]; simp_all⟩
  · cases hv0

set_option maxHeartbeats 1000000 in
theorem impl_of (s : ByteArray) (r : Int) (hf : Hid (Found s r)) (w : World) (t : TypeId) (fr : Nat × Nat) (hc : w.heap[0]? = some (.cells arr t fr)) :
    Calls Tryd.prog 8 #[.string s] w fun e w' => e = .returned (.int .i64 r) ∧ w' = w := by
  go_enter Tryd.func8, Tryd.ntmps8
  go_wp2_with (refine wpList_load_row rfl 27 _ rfl 0 rfl t _ fr _ hc Tryd.underlying27 rfl (by kernel_rfl) ?_)
  clear hc
  go_loop [3, 4, 6] (fun c v i => ∃ k : Nat, k ≤ 20 ∧ i = .int .i64 k ∧ (∀ j, j < k → hit s j = false)) (fun _ _ i => 20 - (intOf i).toNat)
  case atStart => exact ⟨0, by omega, rfl, fun j hj => by omega⟩
  case round =>
    obtain ⟨k, hk, rfl, hn0⟩ := hrel
    have hn : Hid (∀ j, j < k → hit s j = false) := hn0
    clear hn0
    by_cases hlt : k < 20
    · have hlt' : (k : Int) < 20 := by omega
      have ix := ix_all k hlt
      cases hh : hit s k
      · have hh' : ((wd k).toList == s.toList) = false := hh
        clear hh
        go_wp2
        go_round
        case rel => exact ⟨k + 1, by omega, by go_num, fun j hj => by
          rcases Nat.lt_or_ge j k with h' | h'
          · exact hn.out j h'
          · rw [show j = k from by omega]; exact hh'⟩
        case measure => simp [intOf]; omega
      · have hh' : ((wd k).toList == s.toList) = true := hh
        have HR : Hid (r = k) := found_at hf hlt hh hn.out
        clear hh
        go_wp2
        go_ret
        exact ⟨ret_int HR.out.symm, rfl⟩
    · have hlt' : ¬ (k : Int) < 20 := by omega
      have HR : Hid (r = -1) := found_no hf (fun j hj => hn.out j (by omega))
      go_wp2
      go_ret
      exact ⟨ret_int HR.out.symm, rfl⟩

set_option maxHeartbeats 1000000 in
theorem of_law (s : ByteArray) (hs : s.size ≤ maxLen) (w : World) (hc0 : HoldsB w) :
    Calls Tryd.prog 4 #[.string s] w fun e w' => e = .returned (.bool true) ∧ Below w.heap.size w w' := by
  have hs' : s.size ≤ 9223372036854775807 := by unfold maxLen at hs; omega
  clear hs
  by_cases hbig : 1048576 < (s.size : Int)
  · clear hc0
    go_enter Tryd.func4, Tryd.ntmps4
    go_wp2
    go_ret
    exact ⟨rfl, Below.refl _ _⟩
  · obtain ⟨r, hf0⟩ := found_any s
    have hf : Hid (Found s r) := hf0
    obtain ⟨t, fr, hc1⟩ := hc0
    have hlt : (0 : Nat) < w.heap.size := by
      rcases Nat.lt_or_ge 0 w.heap.size with h' | h'
      · exact h'
      · rw [Array.getElem?_eq_none (show w.heap.size ≤ 0 from h')] at hc1; cases hc1
    have hc : Hid (w.heap[0]? = some (.cells arr t fr)) := hc1
    clear hf0 hc1
    go_enter Tryd.func4, Tryd.ntmps4
    go_wp2_with fail
    refine (spec_of s r hf _).mono ?_
    rintro e w1 ⟨rfl, hb⟩
    have hc2 : Hid (w1.heap[0]? = some (.cells arr t fr)) := (hb.block 0 hlt).trans hc.out
    have hB : Hid (Below w.heap.size w w1) := hb
    clear hb
    go_wp2_with fail
    refine (impl_of s r hf _ t fr hc2.out).mono ?_
    rintro e w2 ⟨rfl, rfl⟩
    go_wp2
    go_ret
    exact ⟨rfl, hB.out⟩
end Go.Proofs.YtcappnoghakdbagDoor

/- The law FnExactCodeWord answers true at every number, the table of words being what the program's text lays. -/
import Derived.Test.YtcappnoghakdbagDoorRows
import Derived.Test.YtcappnoghakdbagDoorW
import Derived.Test.YtcappnoghakdbagDoorT
import Derived.WalkKit
import Derived.WalkSpells
import Derived.WalkLawsBesides
namespace Go.Proofs.YtcappnoghakdbagDoor
open Go.RowKit
set_option linter.unusedSimpArgs false
set_option linter.unusedVariables false

set_option maxHeartbeats 1000000 in
theorem spec_word_lo (n : Int) (h : n < 0) (w : World) : Calls Tryd.prog 5 #[.int .i64 n] w fun e w' => e = .returned (.string ⟨#[]⟩) ∧ Below w.heap.size w w' := by
  go_enter Tryd.func5, Tryd.ntmps5
  go_wp2
  go_ret
  exact ⟨rfl, (Below.refl _ _).alloc (Nat.le_refl _) _⟩
set_option maxHeartbeats 1000000 in
theorem spec_word_hi (n : Int) (h : 20 ≤ n) (w : World) : Calls Tryd.prog 5 #[.int .i64 n] w fun e w' => e = .returned (.string ⟨#[]⟩) ∧ Below w.heap.size w w' := by
  have h' : ¬ n < 0 := by omega
  go_enter Tryd.func5, Tryd.ntmps5
  go_wp2
  go_ret
  exact ⟨rfl, (Below.refl _ _).alloc (Nat.le_refl _) _⟩
set_option maxHeartbeats 1000000 in
theorem impl_word_lo (n : Int) (h : n < 0) (w : World) : Calls Tryd.prog 6 #[.int .i64 n] w fun e w' => e = .returned (.string ⟨#[]⟩) ∧ w' = w := by
  go_enter Tryd.func6, Tryd.ntmps6
  go_wp2
  go_ret
  exact ⟨rfl, rfl⟩
set_option maxHeartbeats 1000000 in
theorem impl_word_hi (n : Int) (h : 20 ≤ n) (w : World) : Calls Tryd.prog 6 #[.int .i64 n] w fun e w' => e = .returned (.string ⟨#[]⟩) ∧ w' = w := by
  have h' : ¬ n < 0 := by omega
  go_enter Tryd.func6, Tryd.ntmps6
  go_wp2
  go_ret
  exact ⟨rfl, rfl⟩

def Holds (W : World) : Prop := ∀ i, i < 20 → W.cell? ⟨0, i, none⟩ = some (.string ⟨(wl.getD i []).toArray⟩)
theorem Holds.next {W w1 : World} (hb : Below W.heap.size W w1) (h : Holds W) : Holds w1 := fun i hi => by
  have hc := h i hi
  have hlt : (0 : Nat) < W.heap.size := by
    rcases Nat.lt_or_ge 0 W.heap.size with h' | h'
    · exact h'
    · simp [World.cell?, Array.getElem?_eq_none (show W.heap.size ≤ 0 from h')] at hc
  rw [hb.cell (p := ⟨0, i, none⟩) hlt]; exact hc

set_option maxHeartbeats 1000000 in
theorem word_of (n : Int) (S : ByteArray) (D1 : Hid (∀ W, Calls Tryd.prog 5 #[.int .i64 n] W fun e w' => e = .returned (.string S) ∧ Below W.heap.size W w')) (D2 : Hid (∀ W, Holds W → Calls Tryd.prog 6 #[.int .i64 n] W fun e w' => e = .returned (.string S) ∧ w' = W)) (w : World) (hc : Holds w) :
    Calls Tryd.prog 3 #[.int .i64 n] w fun e w' => e = .returned (.bool true) ∧ Below w.heap.size w w' := by
  go_enter Tryd.func3, Tryd.ntmps3
  go_wp2_with fail
  refine (D1.out _).mono ?_
  rintro e w1 ⟨rfl, hb⟩
  go_wp2_with fail
  refine (D2.out _ (hc.next hb)).mono ?_
  rintro e w2 ⟨rfl, rfl⟩
  go_wp2
  go_ret
  exact ⟨rfl, hb⟩

theorem word_law (n : Int) (_w0 : (Lit.int .i64 n).wf = true) (w : World) (hc : Holds w) :
    Calls Tryd.prog 3 #[.int .i64 n] w fun e w' => e = .returned (.bool true) ∧ Below w.heap.size w w' := by
  by_cases h0 : n < 0
  · exact word_of n _ (fun W => spec_word_lo n h0 W) (fun W _ => impl_word_lo n h0 W) w hc
  by_cases h1 : 20 ≤ n
  · exact word_of n _ (fun W => spec_word_hi n h1 W) (fun W _ => impl_word_hi n h1 W) w hc
  have hk : n = 0 ∨ n = 1 ∨ n = 2 ∨ n = 3 ∨ n = 4 ∨ n = 5 ∨ n = 6 ∨ n = 7 ∨ n = 8 ∨ n = 9 ∨ n = 10 ∨ n = 11 ∨ n = 12 ∨ n = 13 ∨ n = 14 ∨ n = 15 ∨ n = 16 ∨ n = 17 ∨ n = 18 ∨ n = 19 := by omega
  rcases hk with rfl | rfl | rfl | rfl | rfl | rfl | rfl | rfl | rfl | rfl | rfl | rfl | rfl | rfl | rfl | rfl | rfl | rfl | rfl | rfl
  · exact word_of 0 _ (fun W => spec_word_0 W) (fun W h => impl_word_0 W (h 0 (by omega))) w hc
  · exact word_of 1 _ (fun W => spec_word_1 W) (fun W h => impl_word_1 W (h 1 (by omega))) w hc
  · exact word_of 2 _ (fun W => spec_word_2 W) (fun W h => impl_word_2 W (h 2 (by omega))) w hc
  · exact word_of 3 _ (fun W => spec_word_3 W) (fun W h => impl_word_3 W (h 3 (by omega))) w hc
  · exact word_of 4 _ (fun W => spec_word_4 W) (fun W h => impl_word_4 W (h 4 (by omega))) w hc
  · exact word_of 5 _ (fun W => spec_word_5 W) (fun W h => impl_word_5 W (h 5 (by omega))) w hc
  · exact word_of 6 _ (fun W => spec_word_6 W) (fun W h => impl_word_6 W (h 6 (by omega))) w hc
  · exact word_of 7 _ (fun W => spec_word_7 W) (fun W h => impl_word_7 W (h 7 (by omega))) w hc
  · exact word_of 8 _ (fun W => spec_word_8 W) (fun W h => impl_word_8 W (h 8 (by omega))) w hc
  · exact word_of 9 _ (fun W => spec_word_9 W) (fun W h => impl_word_9 W (h 9 (by omega))) w hc
  · exact word_of 10 _ (fun W => spec_word_10 W) (fun W h => impl_word_10 W (h 10 (by omega))) w hc
  · exact word_of 11 _ (fun W => spec_word_11 W) (fun W h => impl_word_11 W (h 11 (by omega))) w hc
  · exact word_of 12 _ (fun W => spec_word_12 W) (fun W h => impl_word_12 W (h 12 (by omega))) w hc
  · exact word_of 13 _ (fun W => spec_word_13 W) (fun W h => impl_word_13 W (h 13 (by omega))) w hc
  · exact word_of 14 _ (fun W => spec_word_14 W) (fun W h => impl_word_14 W (h 14 (by omega))) w hc
  · exact word_of 15 _ (fun W => spec_word_15 W) (fun W h => impl_word_15 W (h 15 (by omega))) w hc
  · exact word_of 16 _ (fun W => spec_word_16 W) (fun W h => impl_word_16 W (h 16 (by omega))) w hc
  · exact word_of 17 _ (fun W => spec_word_17 W) (fun W h => impl_word_17 W (h 17 (by omega))) w hc
  · exact word_of 18 _ (fun W => spec_word_18 W) (fun W h => impl_word_18 W (h 18 (by omega))) w hc
  · exact word_of 19 _ (fun W => spec_word_19 W) (fun W h => impl_word_19 W (h 19 (by omega))) w hc
end Go.Proofs.YtcappnoghakdbagDoor

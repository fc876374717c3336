/- CodeWord of the program and of the specification answer alike at every number. -/
import Derived.Test.YtcappnoghakdbagDoorRows
import Derived.WalkKit
import Derived.WalkSpells
import Derived.WalkLawsBesides
import Derived.Deep.QuietTactic
import Derived.BigQuiet
import Derived.Deep.RegionHeld3
namespace Go.Proofs.YtcappnoghakdbagDoor
open Go.RowKit
set_option linter.unusedSimpArgs false
set_option linter.unusedVariables false


theorem bcell {W w1 : World} (hb : Below W.heap.size W w1) : (∀ b o, b < W.heap.size → w1.cell? ⟨b, o, none⟩ = W.cell? ⟨b, o, none⟩) ∧ (∀ b o, b < W.heap.size → w1.frozen? ⟨b, o, none⟩ = W.frozen? ⟨b, o, none⟩) :=
  ⟨fun b o h => hb.cell (p := ⟨b, o, none⟩) h, fun b o h => hb.frozen (p := ⟨b, o, none⟩) h⟩


set_option maxHeartbeats 1000000 in
theorem spec_word_0 (w : World) :
    Calls Tryd.prog 5 #[.int .i64 0] w fun e w' => e = .returned (.string ⟨#[111, 107]⟩) ∧ Below w.heap.size w w' := by
  go_enter Tryd.func5, Tryd.ntmps5
  go_wp2
  go_ret
  exact ⟨rfl, (Below.refl _ _).alloc (Nat.le_refl _) _⟩
set_option maxHeartbeats 1000000 in
theorem impl_word_0 (w : World) (hc : w.cell? ⟨0, 0, none⟩ = some (.string ⟨#[111, 107]⟩)) :
    Calls Tryd.prog 6 #[.int .i64 0] w fun e w' => e = .returned (.string ⟨#[111, 107]⟩) ∧ w' = w := by
  go_enter Tryd.func6, Tryd.ntmps6
  go_wp2
  go_ret
  exact ⟨rfl, rfl⟩


set_option maxHeartbeats 1000000 in
theorem spec_word_1 (w : World) :
    Calls Tryd.prog 5 #[.int .i64 1] w fun e w' => e = .returned (.string ⟨#[98, 97, 100]⟩) ∧ Below w.heap.size w w' := by
  go_enter Tryd.func5, Tryd.ntmps5
  go_wp2
  go_ret
  exact ⟨rfl, (Below.refl _ _).alloc (Nat.le_refl _) _⟩
set_option maxHeartbeats 1000000 in
theorem impl_word_1 (w : World) (hc : w.cell? ⟨0, 1, none⟩ = some (.string ⟨#[98, 97, 100]⟩)) :
    Calls Tryd.prog 6 #[.int .i64 1] w fun e w' => e = .returned (.string ⟨#[98, 97, 100]⟩) ∧ w' = w := by
  go_enter Tryd.func6, Tryd.ntmps6
  go_wp2
  go_ret
  exact ⟨rfl, rfl⟩


set_option maxHeartbeats 1000000 in
theorem spec_word_2 (w : World) :
    Calls Tryd.prog 5 #[.int .i64 2] w fun e w' => e = .returned (.string ⟨#[108, 111, 110, 103]⟩) ∧ Below w.heap.size w w' := by
  go_enter Tryd.func5, Tryd.ntmps5
  go_wp2
  go_ret
  exact ⟨rfl, (Below.refl _ _).alloc (Nat.le_refl _) _⟩
set_option maxHeartbeats 1000000 in
theorem impl_word_2 (w : World) (hc : w.cell? ⟨0, 2, none⟩ = some (.string ⟨#[108, 111, 110, 103]⟩)) :
    Calls Tryd.prog 6 #[.int .i64 2] w fun e w' => e = .returned (.string ⟨#[108, 111, 110, 103]⟩) ∧ w' = w := by
  go_enter Tryd.func6, Tryd.ntmps6
  go_wp2
  go_ret
  exact ⟨rfl, rfl⟩


set_option maxHeartbeats 1000000 in
theorem spec_word_3 (w : World) :
    Calls Tryd.prog 5 #[.int .i64 3] w fun e w' => e = .returned (.string ⟨#[102, 111, 114, 109]⟩) ∧ Below w.heap.size w w' := by
  go_enter Tryd.func5, Tryd.ntmps5
  go_wp2
  go_ret
  exact ⟨rfl, (Below.refl _ _).alloc (Nat.le_refl _) _⟩
set_option maxHeartbeats 1000000 in
theorem impl_word_3 (w : World) (hc : w.cell? ⟨0, 3, none⟩ = some (.string ⟨#[102, 111, 114, 109]⟩)) :
    Calls Tryd.prog 6 #[.int .i64 3] w fun e w' => e = .returned (.string ⟨#[102, 111, 114, 109]⟩) ∧ w' = w := by
  go_enter Tryd.func6, Tryd.ntmps6
  go_wp2
  go_ret
  exact ⟨rfl, rfl⟩


set_option maxHeartbeats 1000000 in
theorem spec_word_4 (w : World) :
    Calls Tryd.prog 5 #[.int .i64 4] w fun e w' => e = .returned (.string ⟨#[114, 97, 110, 103, 101]⟩) ∧ Below w.heap.size w w' := by
  go_enter Tryd.func5, Tryd.ntmps5
  go_wp2
  go_ret
  exact ⟨rfl, (Below.refl _ _).alloc (Nat.le_refl _) _⟩
set_option maxHeartbeats 1000000 in
theorem impl_word_4 (w : World) (hc : w.cell? ⟨0, 4, none⟩ = some (.string ⟨#[114, 97, 110, 103, 101]⟩)) :
    Calls Tryd.prog 6 #[.int .i64 4] w fun e w' => e = .returned (.string ⟨#[114, 97, 110, 103, 101]⟩) ∧ w' = w := by
  go_enter Tryd.func6, Tryd.ntmps6
  go_wp2
  go_ret
  exact ⟨rfl, rfl⟩


set_option maxHeartbeats 1000000 in
theorem spec_word_5 (w : World) :
    Calls Tryd.prog 5 #[.int .i64 5] w fun e w' => e = .returned (.string ⟨#[110, 111, 110, 101]⟩) ∧ Below w.heap.size w w' := by
  go_enter Tryd.func5, Tryd.ntmps5
  go_wp2
  go_ret
  exact ⟨rfl, (Below.refl _ _).alloc (Nat.le_refl _) _⟩
set_option maxHeartbeats 1000000 in
theorem impl_word_5 (w : World) (hc : w.cell? ⟨0, 5, none⟩ = some (.string ⟨#[110, 111, 110, 101]⟩)) :
    Calls Tryd.prog 6 #[.int .i64 5] w fun e w' => e = .returned (.string ⟨#[110, 111, 110, 101]⟩) ∧ w' = w := by
  go_enter Tryd.func6, Tryd.ntmps6
  go_wp2
  go_ret
  exact ⟨rfl, rfl⟩


set_option maxHeartbeats 1000000 in
theorem spec_word_6 (w : World) :
    Calls Tryd.prog 5 #[.int .i64 6] w fun e w' => e = .returned (.string ⟨#[109, 97, 110, 121]⟩) ∧ Below w.heap.size w w' := by
  go_enter Tryd.func5, Tryd.ntmps5
  go_wp2
  go_ret
  exact ⟨rfl, (Below.refl _ _).alloc (Nat.le_refl _) _⟩
set_option maxHeartbeats 1000000 in
theorem impl_word_6 (w : World) (hc : w.cell? ⟨0, 6, none⟩ = some (.string ⟨#[109, 97, 110, 121]⟩)) :
    Calls Tryd.prog 6 #[.int .i64 6] w fun e w' => e = .returned (.string ⟨#[109, 97, 110, 121]⟩) ∧ w' = w := by
  go_enter Tryd.func6, Tryd.ntmps6
  go_wp2
  go_ret
  exact ⟨rfl, rfl⟩


set_option maxHeartbeats 1000000 in
theorem spec_word_7 (w : World) :
    Calls Tryd.prog 5 #[.int .i64 7] w fun e w' => e = .returned (.string ⟨#[102, 117, 108, 108]⟩) ∧ Below w.heap.size w w' := by
  go_enter Tryd.func5, Tryd.ntmps5
  go_wp2
  go_ret
  exact ⟨rfl, (Below.refl _ _).alloc (Nat.le_refl _) _⟩
set_option maxHeartbeats 1000000 in
theorem impl_word_7 (w : World) (hc : w.cell? ⟨0, 7, none⟩ = some (.string ⟨#[102, 117, 108, 108]⟩)) :
    Calls Tryd.prog 6 #[.int .i64 7] w fun e w' => e = .returned (.string ⟨#[102, 117, 108, 108]⟩) ∧ w' = w := by
  go_enter Tryd.func6, Tryd.ntmps6
  go_wp2
  go_ret
  exact ⟨rfl, rfl⟩


set_option maxHeartbeats 1000000 in
theorem spec_word_8 (w : World) :
    Calls Tryd.prog 5 #[.int .i64 8] w fun e w' => e = .returned (.string ⟨#[107, 101, 121]⟩) ∧ Below w.heap.size w w' := by
  go_enter Tryd.func5, Tryd.ntmps5
  go_wp2
  go_ret
  exact ⟨rfl, (Below.refl _ _).alloc (Nat.le_refl _) _⟩
set_option maxHeartbeats 1000000 in
theorem impl_word_8 (w : World) (hc : w.cell? ⟨0, 8, none⟩ = some (.string ⟨#[107, 101, 121]⟩)) :
    Calls Tryd.prog 6 #[.int .i64 8] w fun e w' => e = .returned (.string ⟨#[107, 101, 121]⟩) ∧ w' = w := by
  go_enter Tryd.func6, Tryd.ntmps6
  go_wp2
  go_ret
  exact ⟨rfl, rfl⟩


set_option maxHeartbeats 1000000 in
theorem spec_word_9 (w : World) :
    Calls Tryd.prog 5 #[.int .i64 9] w fun e w' => e = .returned (.string ⟨#[111, 119, 110, 101, 114]⟩) ∧ Below w.heap.size w w' := by
  go_enter Tryd.func5, Tryd.ntmps5
  go_wp2
  go_ret
  exact ⟨rfl, (Below.refl _ _).alloc (Nat.le_refl _) _⟩
set_option maxHeartbeats 1000000 in
theorem impl_word_9 (w : World) (hc : w.cell? ⟨0, 9, none⟩ = some (.string ⟨#[111, 119, 110, 101, 114]⟩)) :
    Calls Tryd.prog 6 #[.int .i64 9] w fun e w' => e = .returned (.string ⟨#[111, 119, 110, 101, 114]⟩) ∧ w' = w := by
  go_enter Tryd.func6, Tryd.ntmps6
  go_wp2
  go_ret
  exact ⟨rfl, rfl⟩


set_option maxHeartbeats 1000000 in
theorem spec_word_10 (w : World) :
    Calls Tryd.prog 5 #[.int .i64 10] w fun e w' => e = .returned (.string ⟨#[100, 111, 119, 110]⟩) ∧ Below w.heap.size w w' := by
  go_enter Tryd.func5, Tryd.ntmps5
  go_wp2
  go_ret
  exact ⟨rfl, (Below.refl _ _).alloc (Nat.le_refl _) _⟩
set_option maxHeartbeats 1000000 in
theorem impl_word_10 (w : World) (hc : w.cell? ⟨0, 10, none⟩ = some (.string ⟨#[100, 111, 119, 110]⟩)) :
    Calls Tryd.prog 6 #[.int .i64 10] w fun e w' => e = .returned (.string ⟨#[100, 111, 119, 110]⟩) ∧ w' = w := by
  go_enter Tryd.func6, Tryd.ntmps6
  go_wp2
  go_ret
  exact ⟨rfl, rfl⟩


set_option maxHeartbeats 1000000 in
theorem spec_word_11 (w : World) :
    Calls Tryd.prog 5 #[.int .i64 11] w fun e w' => e = .returned (.string ⟨#[117, 112]⟩) ∧ Below w.heap.size w w' := by
  go_enter Tryd.func5, Tryd.ntmps5
  go_wp2
  go_ret
  exact ⟨rfl, (Below.refl _ _).alloc (Nat.le_refl _) _⟩
set_option maxHeartbeats 1000000 in
theorem impl_word_11 (w : World) (hc : w.cell? ⟨0, 11, none⟩ = some (.string ⟨#[117, 112]⟩)) :
    Calls Tryd.prog 6 #[.int .i64 11] w fun e w' => e = .returned (.string ⟨#[117, 112]⟩) ∧ w' = w := by
  go_enter Tryd.func6, Tryd.ntmps6
  go_wp2
  go_ret
  exact ⟨rfl, rfl⟩


set_option maxHeartbeats 1000000 in
theorem spec_word_12 (w : World) :
    Calls Tryd.prog 5 #[.int .i64 12] w fun e w' => e = .returned (.string ⟨#[102, 101, 110, 99, 101, 100]⟩) ∧ Below w.heap.size w w' := by
  go_enter Tryd.func5, Tryd.ntmps5
  go_wp2
  go_ret
  exact ⟨rfl, (Below.refl _ _).alloc (Nat.le_refl _) _⟩
set_option maxHeartbeats 1000000 in
theorem impl_word_12 (w : World) (hc : w.cell? ⟨0, 12, none⟩ = some (.string ⟨#[102, 101, 110, 99, 101, 100]⟩)) :
    Calls Tryd.prog 6 #[.int .i64 12] w fun e w' => e = .returned (.string ⟨#[102, 101, 110, 99, 101, 100]⟩) ∧ w' = w := by
  go_enter Tryd.func6, Tryd.ntmps6
  go_wp2
  go_ret
  exact ⟨rfl, rfl⟩


set_option maxHeartbeats 1000000 in
theorem spec_word_13 (w : World) :
    Calls Tryd.prog 5 #[.int .i64 13] w fun e w' => e = .returned (.string ⟨#[113, 117, 111, 114, 117, 109]⟩) ∧ Below w.heap.size w w' := by
  go_enter Tryd.func5, Tryd.ntmps5
  go_wp2
  go_ret
  exact ⟨rfl, (Below.refl _ _).alloc (Nat.le_refl _) _⟩
set_option maxHeartbeats 1000000 in
theorem impl_word_13 (w : World) (hc : w.cell? ⟨0, 13, none⟩ = some (.string ⟨#[113, 117, 111, 114, 117, 109]⟩)) :
    Calls Tryd.prog 6 #[.int .i64 13] w fun e w' => e = .returned (.string ⟨#[113, 117, 111, 114, 117, 109]⟩) ∧ w' = w := by
  go_enter Tryd.func6, Tryd.ntmps6
  go_wp2
  go_ret
  exact ⟨rfl, rfl⟩


set_option maxHeartbeats 1000000 in
theorem spec_word_14 (w : World) :
    Calls Tryd.prog 5 #[.int .i64 14] w fun e w' => e = .returned (.string ⟨#[115, 117, 109]⟩) ∧ Below w.heap.size w w' := by
  go_enter Tryd.func5, Tryd.ntmps5
  go_wp2
  go_ret
  exact ⟨rfl, (Below.refl _ _).alloc (Nat.le_refl _) _⟩
set_option maxHeartbeats 1000000 in
theorem impl_word_14 (w : World) (hc : w.cell? ⟨0, 14, none⟩ = some (.string ⟨#[115, 117, 109]⟩)) :
    Calls Tryd.prog 6 #[.int .i64 14] w fun e w' => e = .returned (.string ⟨#[115, 117, 109]⟩) ∧ w' = w := by
  go_enter Tryd.func6, Tryd.ntmps6
  go_wp2
  go_ret
  exact ⟨rfl, rfl⟩


set_option maxHeartbeats 1000000 in
theorem spec_word_15 (w : World) :
    Calls Tryd.prog 5 #[.int .i64 15] w fun e w' => e = .returned (.string ⟨#[116, 111, 114, 110]⟩) ∧ Below w.heap.size w w' := by
  go_enter Tryd.func5, Tryd.ntmps5
  go_wp2
  go_ret
  exact ⟨rfl, (Below.refl _ _).alloc (Nat.le_refl _) _⟩
set_option maxHeartbeats 1000000 in
theorem impl_word_15 (w : World) (hc : w.cell? ⟨0, 15, none⟩ = some (.string ⟨#[116, 111, 114, 110]⟩)) :
    Calls Tryd.prog 6 #[.int .i64 15] w fun e w' => e = .returned (.string ⟨#[116, 111, 114, 110]⟩) ∧ w' = w := by
  go_enter Tryd.func6, Tryd.ntmps6
  go_wp2
  go_ret
  exact ⟨rfl, rfl⟩


set_option maxHeartbeats 1000000 in
theorem spec_word_16 (w : World) :
    Calls Tryd.prog 5 #[.int .i64 16] w fun e w' => e = .returned (.string ⟨#[99, 117, 116]⟩) ∧ Below w.heap.size w w' := by
  go_enter Tryd.func5, Tryd.ntmps5
  go_wp2
  go_ret
  exact ⟨rfl, (Below.refl _ _).alloc (Nat.le_refl _) _⟩
set_option maxHeartbeats 1000000 in
theorem impl_word_16 (w : World) (hc : w.cell? ⟨0, 16, none⟩ = some (.string ⟨#[99, 117, 116]⟩)) :
    Calls Tryd.prog 6 #[.int .i64 16] w fun e w' => e = .returned (.string ⟨#[99, 117, 116]⟩) ∧ w' = w := by
  go_enter Tryd.func6, Tryd.ntmps6
  go_wp2
  go_ret
  exact ⟨rfl, rfl⟩


set_option maxHeartbeats 1000000 in
theorem spec_word_17 (w : World) :
    Calls Tryd.prog 5 #[.int .i64 17] w fun e w' => e = .returned (.string ⟨#[111, 114, 100, 101, 114]⟩) ∧ Below w.heap.size w w' := by
  go_enter Tryd.func5, Tryd.ntmps5
  go_wp2
  go_ret
  exact ⟨rfl, (Below.refl _ _).alloc (Nat.le_refl _) _⟩
set_option maxHeartbeats 1000000 in
theorem impl_word_17 (w : World) (hc : w.cell? ⟨0, 17, none⟩ = some (.string ⟨#[111, 114, 100, 101, 114]⟩)) :
    Calls Tryd.prog 6 #[.int .i64 17] w fun e w' => e = .returned (.string ⟨#[111, 114, 100, 101, 114]⟩) ∧ w' = w := by
  go_enter Tryd.func6, Tryd.ntmps6
  go_wp2
  go_ret
  exact ⟨rfl, rfl⟩


set_option maxHeartbeats 1000000 in
theorem spec_word_18 (w : World) :
    Calls Tryd.prog 5 #[.int .i64 18] w fun e w' => e = .returned (.string ⟨#[110, 97, 109, 101]⟩) ∧ Below w.heap.size w w' := by
  go_enter Tryd.func5, Tryd.ntmps5
  go_wp2
  go_ret
  exact ⟨rfl, (Below.refl _ _).alloc (Nat.le_refl _) _⟩
set_option maxHeartbeats 1000000 in
theorem impl_word_18 (w : World) (hc : w.cell? ⟨0, 18, none⟩ = some (.string ⟨#[110, 97, 109, 101]⟩)) :
    Calls Tryd.prog 6 #[.int .i64 18] w fun e w' => e = .returned (.string ⟨#[110, 97, 109, 101]⟩) ∧ w' = w := by
  go_enter Tryd.func6, Tryd.ntmps6
  go_wp2
  go_ret
  exact ⟨rfl, rfl⟩


set_option maxHeartbeats 1000000 in
theorem spec_word_19 (w : World) :
    Calls Tryd.prog 5 #[.int .i64 19] w fun e w' => e = .returned (.string ⟨#[99, 108, 111, 115, 101, 100]⟩) ∧ Below w.heap.size w w' := by
  go_enter Tryd.func5, Tryd.ntmps5
  go_wp2
  go_ret
  exact ⟨rfl, (Below.refl _ _).alloc (Nat.le_refl _) _⟩
set_option maxHeartbeats 1000000 in
theorem impl_word_19 (w : World) (hc : w.cell? ⟨0, 19, none⟩ = some (.string ⟨#[99, 108, 111, 115, 101, 100]⟩)) :
    Calls Tryd.prog 6 #[.int .i64 19] w fun e w' => e = .returned (.string ⟨#[99, 108, 111, 115, 101, 100]⟩) ∧ w' = w := by
  go_enter Tryd.func6, Tryd.ntmps6
  go_wp2
  go_ret
  exact ⟨rfl, rfl⟩

end Go.Proofs.YtcappnoghakdbagDoor

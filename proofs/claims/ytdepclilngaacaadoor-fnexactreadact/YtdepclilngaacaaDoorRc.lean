/- The reader's functions: each takes what it finds off the beginning. -/
import Derived.Test.YtdepclilngaacaaDoorRows
import Derived.WalkKit
import Derived.WalkSpells
import Derived.WalkLawsBesides
import Derived.Deep.QuietTactic
import Derived.BigQuiet
import Derived.Deep.RegionHeld3
import Derived.Test.YtdepclilngaacaaDoorRl
import Derived.LoopN
namespace Go.Proofs.YtdepclilngaacaaDoor
open Go.RowKit
set_option linter.unusedSimpArgs false
set_option linter.unusedVariables false

theorem empty_yes (s : ByteArray) (h : s.size = 0) : s.toList.isEmpty = true := by
  rw [ByteArray.toList_eq, List.isEmpty_iff]
  exact List.length_eq_zero_iff.1 ((bl_len s).trans h)
theorem empty_no (s : ByteArray) (h : 0 < s.size) : s.toList.isEmpty = false := by
  rw [ByteArray.toList_eq]
  cases h' : s.data.toList with
  | nil =>
    have e : ([] : List UInt8).length = s.size := by rw [← h']; exact bl_len s
    simp only [List.length_nil] at e
    omega
  | cons c l => rfl
/-- What is left to read lies in a variable of its own. -/
def Left (w : World) (g : Nat) (s : ByteArray) : Prop := w.cell? ⟨g, 0, none⟩ = some (.string s) ∧ w.frozen? ⟨g, 0, none⟩ = false
theorem sl_bl (s : ByteArray) (k : Nat) (h : k ≤ s.size) : bl (s.extract k s.size) = (bl s).drop k := by
  unfold bl
  rw [ByteArray.data_extract]
  simp
  rw [List.take_of_length_le]
  simp
theorem sl_size (s : ByteArray) (k : Nat) (h : k ≤ s.size) : (s.extract k s.size).size = s.size - k := by
  rw [ByteArray.size_extract]; omega
set_option maxHeartbeats 1000000 in
theorem ended_yes (g : Nat) (s : ByteArray) (w : World) (h : w.cell? ⟨g, 0, none⟩ = some (.string s)) (hs : s.size = 0) :
    Calls Tryd.prog 41 #[.pointer (some ⟨g, 0, none⟩)] w fun e w' => e = .returned (.bool true) ∧ w' = w := by
  have hE := empty_yes s hs
  clear hs
  go_enter Tryd.func41, Tryd.ntmps41
  go_wp2
  go_ret
  exact ⟨rfl, rfl⟩
set_option maxHeartbeats 1000000 in
theorem ended_no (g : Nat) (s : ByteArray) (w : World) (h : w.cell? ⟨g, 0, none⟩ = some (.string s)) (hs : 0 < s.size) :
    Calls Tryd.prog 41 #[.pointer (some ⟨g, 0, none⟩)] w fun e w' => e = .returned (.bool false) ∧ w' = w := by
  have hE := empty_no s hs
  go_enter Tryd.func41, Tryd.ntmps41
  go_wp2
  go_ret
  exact ⟨rfl, rfl⟩
set_option maxHeartbeats 1000000 in
theorem sign_none (g : Nat) (s : ByteArray) (c : Nat) (w : World) (h : w.cell? ⟨g, 0, none⟩ = some (.string s)) (hs : s.size = 0) :
    Calls Tryd.prog 38 #[.int .u8 c, .pointer (some ⟨g, 0, none⟩)] w fun e w' => e = .returned (.bool false) ∧ w' = w := by
  have hE := empty_yes s hs
  clear hs
  go_enter Tryd.func38, Tryd.ntmps38
  go_wp2
  go_ret
  exact ⟨rfl, rfl⟩
set_option maxHeartbeats 1000000 in
theorem sign_other (g : Nat) (s : ByteArray) (c : Nat) (w : World) (h : w.cell? ⟨g, 0, none⟩ = some (.string s)) (hs : 0 < s.size) (hc : ¬ (s[0]'hs).toNat = c) :
    Calls Tryd.prog 38 #[.int .u8 c, .pointer (some ⟨g, 0, none⟩)] w fun e w' => e = .returned (.bool false) ∧ w' = w := by
  have hE := empty_no s hs
  have hc' : (((s[0]'hs).toNat : Int) != (c : Int)) = true := by rw [bne_iff_ne]; omega
  go_enter Tryd.func38, Tryd.ntmps38
  go_wp2
  go_ret
  exact ⟨rfl, rfl⟩
set_option maxHeartbeats 1000000 in
theorem sign_yes (g : Nat) (s : ByteArray) (c : Nat) (w : World) (h : w.cell? ⟨g, 0, none⟩ = some (.string s)) (hf : w.frozen? ⟨g, 0, none⟩ = false) (hs : 0 < s.size) (hc : (s[0]'hs).toNat = c) :
    Calls Tryd.prog 38 #[.int .u8 c, .pointer (some ⟨g, 0, none⟩)] w fun e w' => e = .returned (.bool true) ∧ w' = w.setCell ⟨g, 0, none⟩ (.string (s.extract 1 s.size)) := by
  have hE := empty_no s hs
  subst hc
  have hs1 : (1 : Int) ≤ (s.size : Int) := by omega
  go_enter Tryd.func38, Tryd.ntmps38
  go_wp2
  go_ret
  exact ⟨rfl, rfl⟩
theorem left_set {w : World} {g : Nat} {s s' : ByteArray} (h : Left w g s) : Left (w.setCell ⟨g, 0, none⟩ (.string s')) g s' := ⟨cell_same h.1, by rw [World.frozen?_setCell]; exact h.2⟩
theorem left_next {w w' : World} {g : Nat} {s : ByteArray} (h : Left w g s) (hb : Below w.heap.size w w') (hg : g < w.heap.size) : Left w' g s := ⟨cell_next hb h.1 hg, frozen_next hb h.2 hg⟩
set_option maxHeartbeats 1000000 in
theorem number_any (g : Nat) (s : ByteArray) (most : Int) (n : Int) (k : Nat) (hnk : Hid (ld most (bl s) = (n, k))) (w : World) (h : Left w g s) (hg : g < w.heap.size) (h0 : 0 ≤ most) (h1 : most ≤ 100000) (hs : s.size ≤ 1048576) :
    Calls Tryd.prog 39 #[.int .i64 most, .pointer (some ⟨g, 0, none⟩)] w fun e w' => e = .returned (.tuple #[.int .i64 n, .bool (decide (0 < k))]) ∧ Left w' g (s.extract k s.size) ∧ w.grownBy w' (some g) := by
  obtain ⟨hc, hf⟩ := h
  go_enter Tryd.func39, Tryd.ntmps39
  go_wp2_with fail
  refine (lead_any s most _ h0 h1 hs).mono ?_
  rintro e w1 ⟨rfl, hb⟩
  have hB : Hid (Below w.heap.size w w1) := hb
  have L1 : Hid (Left w1 g s) := left_next ⟨hc, hf⟩ hb hg
  have hc1 := L1.out.1
  have hf1 := L1.out.2
  have HK : Hid (k ≤ s.size) := by have := (ld_bound h0 (bl s)).2.2; rw [hnk.out, bl_len] at this; exact this
  rw [hnk.out]
  have k0 : (0 : Int) ≤ (k : Int) := by omega
  have k1 : (k : Int) ≤ (s.size : Int) := by have := HK.out; omega
  clear hb hc hf
  dsimp only
  go_wp2
  all_goals go_ret2
  all_goals exact ⟨rfl, left_set L1.out, gb_trans (gb_below hB.out) (gb_set _ _ _ _)⟩
end Go.Proofs.YtdepclilngaacaaDoor

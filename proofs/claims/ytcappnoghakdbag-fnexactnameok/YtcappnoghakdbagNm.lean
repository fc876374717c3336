/- NameOK of the program and of the specification tell the same of every text. -/
import Derived.Test.YtcappnoghakdbagRows
import Derived.WalkKit
import Derived.WalkSpells
import Derived.WalkLawsBesides
import Derived.Deep.QuietTactic
import Derived.BigQuiet
namespace Go.Proofs.Ytcappnoghakdbag
open Go.RowKit

def letB (n : Int) : Bool := decide (97 ≤ n) && decide (n ≤ 122) || decide (65 ≤ n) && decide (n ≤ 90) || n == 95
def digB (n : Int) : Bool := decide (48 ≤ n) && decide (n ≤ 57)
def okB (s : ByteArray) (k : Nat) (h : k < s.size) : Bool := letB (s[k].toNat : Int) || digB (s[k].toNat : Int)
def okTo (s : ByteArray) (k : Nat) : Prop := ∀ (j : Nat) (h : j < s.size), 1 ≤ j → j < k → okB s j h = true
def nameP (s : ByteArray) : Prop := ∃ h : 0 < s.size, s.size ≤ 40 ∧ letB (s[0].toNat : Int) = true ∧ okTo s s.size
theorem ret_bool {a b : Bool} (h : a = b) : Ending.returned (.bool a) = .returned (.bool b) := by rw [h]
theorem okTo_one (s : ByteArray) : okTo s 1 := fun j _ h1 h2 => by omega
theorem okTo_succ (s : ByteArray) (k : Nat) (h : k < s.size) (hk : okTo s k) (ho : okB s k h = true) : okTo s (k + 1) := by
  intro j hj h1 h2
  by_cases e : j = k
  · subst e; exact ho
  · exact hk j hj h1 (by omega)
theorem name_of (s : ByteArray) (b : Bool) (hb : Hid (b = true ↔ nameP s)) (h : ¬ nameP s) : b = false := by
  cases b
  · rfl
  · exact (h (hb.out.1 rfl)).elim
theorem name_short (s : ByteArray) (b : Bool) (hb : Hid (b = true ↔ nameP s)) (h : s.size < 1) : b = false := name_of s b hb fun ⟨a, _⟩ => by omega
theorem name_long (s : ByteArray) (b : Bool) (hb : Hid (b = true ↔ nameP s)) (h : 40 < s.size) : b = false := name_of s b hb fun ⟨_, a, _⟩ => by omega
theorem name_first (s : ByteArray) (b : Bool) (hb : Hid (b = true ↔ nameP s)) (h : 0 < s.size) (hl : letB (s[0].toNat : Int) = false) : b = false := name_of s b hb fun ⟨_, _, a, _⟩ => by rw [hl] at a; cases a
theorem name_no (s : ByteArray) (b : Bool) (hb : Hid (b = true ↔ nameP s)) (k : Nat) (h1 : 1 ≤ k) (h : k < s.size) (ho : okB s k h = false) : b = false := name_of s b hb fun ⟨_, _, _, a⟩ => by
  have := a k h h1 h
  rw [ho] at this; cases this
theorem name_yes (s : ByteArray) (b : Bool) (hb : Hid (b = true ↔ nameP s)) (h : 0 < s.size) (h40 : s.size ≤ 40) (hl : letB (s[0].toNat : Int) = true) (k : Nat) (hk : s.size ≤ k) (ho : okTo s k) : b = true :=
  hb.out.2 ⟨h, h40, hl, fun j hj h1 _ => ho j hj h1 (by omega)⟩


set_option maxHeartbeats 400000 in
theorem impl_let (n : Int) (w : World) :
    Calls Try.prog 11 #[.int .u8 n] w fun e w' => e = .returned (.bool (letB n)) ∧ w' = w := by
  by_cases h1 : 97 ≤ n <;> by_cases h2 : n ≤ 122 <;> by_cases h3 : 65 ≤ n <;> by_cases h4 : n ≤ 90 <;> by_cases h5 : (n == 95) = true
  all_goals first
    | (exfalso; simp at h5; omega)
    | skip
  all_goals
    have HB : Hid (letB n = (decide (97 ≤ n) && decide (n ≤ 122) || decide (65 ≤ n) && decide (n ≤ 90) || n == 95)) := rfl
    go_enter Try.func11, Try.ntmps11
    go_wp2
    go_ret
    exact ⟨by rw [HB.out]; simp_all, rfl⟩

set_option maxHeartbeats 400000 in
theorem impl_dig (n : Int) (w : World) :
    Calls Try.prog 12 #[.int .u8 n] w fun e w' => e = .returned (.bool (digB n)) ∧ w' = w := by
  by_cases h1 : 48 ≤ n <;> by_cases h2 : n ≤ 57
  all_goals
    have HB : Hid (digB n = (decide (48 ≤ n) && decide (n ≤ 57))) := rfl
    go_enter Try.func12, Try.ntmps12
    go_wp2
    go_ret
    exact ⟨by rw [HB.out]; simp_all, rfl⟩

set_option maxHeartbeats 1000000 in
theorem impl_name (s : ByteArray) (b : Bool) (hb0 : b = true ↔ nameP s) (w : World) (hs : s.size ≤ maxLen) :
    Calls Try.prog 6 #[.string s] w fun e w' => e = .returned (.bool b) ∧ w' = w := by
  unfold maxLen at hs
  have hb : Hid (b = true ↔ nameP s) := hb0
  clear hb0
  by_cases h0 : s.size < 1
  · have HB : Hid (b = false) := name_short s b hb h0
    have h0' : ((s.size : Int)) < 1 := by omega
    go_enter Try.func6, Try.ntmps6
    go_wp2
    go_ret
    exact ⟨ret_bool HB.out.symm, rfl⟩
  by_cases h40 : 40 < s.size
  · have HB : Hid (b = false) := name_long s b hb h40
    have h0' : ¬ ((s.size : Int)) < 1 := by omega
    have h40' : 40 < (s.size : Int) := by omega
    go_enter Try.func6, Try.ntmps6
    go_wp2
    go_ret
    exact ⟨ret_bool HB.out.symm, rfl⟩
  have hp : 0 < s.size := by omega
  have h0' : ¬ ((s.size : Int)) < 1 := by omega
  have h40' : ¬ 40 < (s.size : Int) := by omega
  have hi0 : (0 : Int) < (s.size : Int) := by omega
  by_cases hl : letB (s[0].toNat : Int) = true
  · go_enter Try.func6, Try.ntmps6
    go_wp2_with (first | (go_at_call 11; refine (impl_let _ _).mono ?_; rintro e w' ⟨rfl, rfl⟩))
    go_loop [3] (fun i => ∃ k : Nat, 1 ≤ k ∧ k ≤ s.size ∧ i = .int .i64 k ∧ okTo s k) (fun i => s.size - (intOf i).toNat)
    case atStart => exact ⟨1, by omega, by omega, rfl, okTo_one s⟩
    case round =>
      obtain ⟨k, hk1, hk, rfl, hok0⟩ := hrel
      have hok : Hid (okTo s k) := hok0
      clear hok0
      by_cases hlt : k < s.size
      · have hlt' : (k : Int) < (s.size : Int) := by omega
        by_cases hL : letB (s[k].toNat : Int) = true
        · go_wp2_with (first | (go_at_call 11; refine (impl_let _ _).mono ?_; rintro e w' ⟨rfl, rfl⟩) | (go_at_call 12; refine (impl_dig _ _).mono ?_; rintro e w' ⟨rfl, rfl⟩))
          go_round
          case rel => exact ⟨k + 1, by omega, by omega, by go_num, okTo_succ s k hlt hok.out (by simp [okB, hL])⟩
          case measure => simp [intOf]; omega
        · have hL' : letB (s[k].toNat : Int) = false := by simpa using hL
          clear hL
          by_cases hD : digB (s[k].toNat : Int) = true
          · go_wp2_with (first | (go_at_call 11; refine (impl_let _ _).mono ?_; rintro e w' ⟨rfl, rfl⟩) | (go_at_call 12; refine (impl_dig _ _).mono ?_; rintro e w' ⟨rfl, rfl⟩))
            go_round
            case rel => exact ⟨k + 1, by omega, by omega, by go_num, okTo_succ s k hlt hok.out (by simp [okB, hD])⟩
            case measure => simp [intOf]; omega
          · have hD' : digB (s[k].toNat : Int) = false := by simpa using hD
            clear hD
            have HB : Hid (b = false) := name_no s b hb k hk1 hlt (by simp [okB, hL', hD'])
            go_wp2_with (first | (go_at_call 11; refine (impl_let _ _).mono ?_; rintro e w' ⟨rfl, rfl⟩) | (go_at_call 12; refine (impl_dig _ _).mono ?_; rintro e w' ⟨rfl, rfl⟩))
            go_ret
            exact ⟨ret_bool HB.out.symm, rfl⟩
      · have hlt' : ¬ (k : Int) < (s.size : Int) := by omega
        have HB : Hid (b = true) := name_yes s b hb hp (by omega) hl k (by omega) hok.out
        go_wp2
        go_ret
        exact ⟨ret_bool HB.out.symm, rfl⟩
  · have hl' : letB (s[0].toNat : Int) = false := by simpa using hl
    clear hl
    have HB : Hid (b = false) := name_first s b hb hp hl'
    go_enter Try.func6, Try.ntmps6
    go_wp2_with (first | (go_at_call 11; refine (impl_let _ _).mono ?_; rintro e w' ⟨rfl, rfl⟩))
    go_ret
    exact ⟨ret_bool HB.out.symm, rfl⟩


set_option maxHeartbeats 400000 in
theorem spec_let (n : Int) (w : World) :
    Calls Try.prog 15 #[.int .u8 n] w fun e w' => e = .returned (.bool (letB n)) ∧ w' = w := by
  by_cases h1 : 97 ≤ n <;> by_cases h2 : n ≤ 122 <;> by_cases h3 : 65 ≤ n <;> by_cases h4 : n ≤ 90 <;> by_cases h5 : (n == 95) = true
  all_goals first
    | (exfalso; simp at h5; omega)
    | skip
  all_goals
    have HB : Hid (letB n = (decide (97 ≤ n) && decide (n ≤ 122) || decide (65 ≤ n) && decide (n ≤ 90) || n == 95)) := rfl
    go_enter Try.func15, Try.ntmps15
    go_wp2
    go_ret
    exact ⟨by rw [HB.out]; simp_all, rfl⟩

set_option maxHeartbeats 400000 in
theorem spec_dig (n : Int) (w : World) :
    Calls Try.prog 16 #[.int .u8 n] w fun e w' => e = .returned (.bool (digB n)) ∧ w' = w := by
  by_cases h1 : 48 ≤ n <;> by_cases h2 : n ≤ 57
  all_goals
    have HB : Hid (digB n = (decide (48 ≤ n) && decide (n ≤ 57))) := rfl
    go_enter Try.func16, Try.ntmps16
    go_wp2
    go_ret
    exact ⟨by rw [HB.out]; simp_all, rfl⟩

set_option maxHeartbeats 1000000 in
theorem spec_name (s : ByteArray) (b : Bool) (hb0 : b = true ↔ nameP s) (w : World) (hs : s.size ≤ maxLen) :
    Calls Try.prog 10 #[.string s] w fun e w' => e = .returned (.bool b) ∧ w' = w := by
  unfold maxLen at hs
  have hb : Hid (b = true ↔ nameP s) := hb0
  clear hb0
  by_cases h0 : s.size < 1
  · have HB : Hid (b = false) := name_short s b hb h0
    have h0' : ((s.size : Int)) < 1 := by omega
    go_enter Try.func10, Try.ntmps10
    go_wp2
    go_ret
    exact ⟨ret_bool HB.out.symm, rfl⟩
  by_cases h40 : 40 < s.size
  · have HB : Hid (b = false) := name_long s b hb h40
    have h0' : ¬ ((s.size : Int)) < 1 := by omega
    have h40' : 40 < (s.size : Int) := by omega
    go_enter Try.func10, Try.ntmps10
    go_wp2
    go_ret
    exact ⟨ret_bool HB.out.symm, rfl⟩
  have hp : 0 < s.size := by omega
  have h0' : ¬ ((s.size : Int)) < 1 := by omega
  have h40' : ¬ 40 < (s.size : Int) := by omega
  have hi0 : (0 : Int) < (s.size : Int) := by omega
  by_cases hl : letB (s[0].toNat : Int) = true
  · go_enter Try.func10, Try.ntmps10
    go_wp2_with (first | (go_at_call 15; refine (spec_let _ _).mono ?_; rintro e w' ⟨rfl, rfl⟩))
    go_loop [3] (fun i => ∃ k : Nat, 1 ≤ k ∧ k ≤ s.size ∧ i = .int .i64 k ∧ okTo s k) (fun i => s.size - (intOf i).toNat)
    case atStart => exact ⟨1, by omega, by omega, rfl, okTo_one s⟩
    case round =>
      obtain ⟨k, hk1, hk, rfl, hok0⟩ := hrel
      have hok : Hid (okTo s k) := hok0
      clear hok0
      by_cases hlt : k < s.size
      · have hlt' : (k : Int) < (s.size : Int) := by omega
        by_cases hL : letB (s[k].toNat : Int) = true
        · go_wp2_with (first | (go_at_call 15; refine (spec_let _ _).mono ?_; rintro e w' ⟨rfl, rfl⟩) | (go_at_call 16; refine (spec_dig _ _).mono ?_; rintro e w' ⟨rfl, rfl⟩))
          go_round
          case rel => exact ⟨k + 1, by omega, by omega, by go_num, okTo_succ s k hlt hok.out (by simp [okB, hL])⟩
          case measure => simp [intOf]; omega
        · have hL' : letB (s[k].toNat : Int) = false := by simpa using hL
          clear hL
          by_cases hD : digB (s[k].toNat : Int) = true
          · go_wp2_with (first | (go_at_call 15; refine (spec_let _ _).mono ?_; rintro e w' ⟨rfl, rfl⟩) | (go_at_call 16; refine (spec_dig _ _).mono ?_; rintro e w' ⟨rfl, rfl⟩))
            go_round
            case rel => exact ⟨k + 1, by omega, by omega, by go_num, okTo_succ s k hlt hok.out (by simp [okB, hD])⟩
            case measure => simp [intOf]; omega
          · have hD' : digB (s[k].toNat : Int) = false := by simpa using hD
            clear hD
            have HB : Hid (b = false) := name_no s b hb k hk1 hlt (by simp [okB, hL', hD'])
            go_wp2_with (first | (go_at_call 15; refine (spec_let _ _).mono ?_; rintro e w' ⟨rfl, rfl⟩) | (go_at_call 16; refine (spec_dig _ _).mono ?_; rintro e w' ⟨rfl, rfl⟩))
            go_ret
            exact ⟨ret_bool HB.out.symm, rfl⟩
      · have hlt' : ¬ (k : Int) < (s.size : Int) := by omega
        have HB : Hid (b = true) := name_yes s b hb hp (by omega) hl k (by omega) hok.out
        go_wp2
        go_ret
        exact ⟨ret_bool HB.out.symm, rfl⟩
  · have hl' : letB (s[0].toNat : Int) = false := by simpa using hl
    clear hl
    have HB : Hid (b = false) := name_first s b hb hp hl'
    go_enter Try.func10, Try.ntmps10
    go_wp2_with (first | (go_at_call 15; refine (spec_let _ _).mono ?_; rintro e w' ⟨rfl, rfl⟩))
    go_ret
    exact ⟨ret_bool HB.out.symm, rfl⟩


set_option maxHeartbeats 400000 in
theorem name_law (s : ByteArray) (hs : s.size ≤ maxLen) (w : World) :
    Calls Try.prog 3 #[.string s] w fun e w' => e = .returned (.bool true) ∧ Below w.heap.size w w' := by
  have hs' : s.size ≤ 9223372036854775807 := by unfold maxLen at hs; omega
  by_cases hbig : 1048576 < (s.size : Int)
  · go_enter Try.func3, Try.ntmps3
    go_wp2
    go_ret
    exact ⟨rfl, Below.refl _ _⟩
  · have HS : Hid (s.size ≤ maxLen) := hs
    clear hs
    obtain ⟨b, hb0⟩ : ∃ b : Bool, b = true ↔ nameP s := by
      by_cases h : nameP s
      · exact ⟨true, by simp [h]⟩
      · exact ⟨false, by simp [h]⟩
    have hb : Hid (b = true ↔ nameP s) := hb0
    clear hb0
    go_enter Try.func3, Try.ntmps3
    go_wp2_with (first | (go_at_call 10; refine (spec_name _ _ hb.out _ HS.out).mono ?_; rintro e w' ⟨rfl, rfl⟩) | (go_at_call 6; refine (impl_name _ _ hb.out _ HS.out).mono ?_; rintro e w' ⟨rfl, rfl⟩) | go_in)
    go_ret
    exact ⟨rfl, Below.refl _ _⟩
end Go.Proofs.Ytcappnoghakdbag

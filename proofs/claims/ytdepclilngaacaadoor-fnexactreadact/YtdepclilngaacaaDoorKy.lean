/- A key, on both sides. -/
import Derived.Test.YtdepclilngaacaaDoorRows
import Derived.WalkKit
import Derived.WalkSpells
import Derived.WalkLawsBesides
import Derived.Deep.QuietTactic
import Derived.BigQuiet
import Derived.Deep.RegionHeld3
import Derived.LoopN
import Derived.Test.YtdepclilngaacaaDoorGk
namespace Go.Proofs.YtdepclilngaacaaDoor
open Go.RowKit
set_option linter.unusedSimpArgs false
set_option linter.unusedVariables false

def keyTo (s : ByteArray) (k : Nat) : Prop := ∀ (j : Nat) (h : j < s.size), j < k → 97 ≤ (s[j]'h).toNat ∧ (s[j]'h).toNat ≤ 122
def keyP (s : ByteArray) : Prop := 1 ≤ s.size ∧ s.size ≤ 6 ∧ keyTo s s.size
theorem keyTo_zero (s : ByteArray) : keyTo s 0 := fun j _ h => by omega
theorem keyTo_succ (s : ByteArray) (k : Nat) (h : k < s.size) (hk : keyTo s k) (ho : 97 ≤ (s[k]'h).toNat ∧ (s[k]'h).toNat ≤ 122) : keyTo s (k + 1) := by
  intro j hj h2
  by_cases e : j = k
  · subst e; exact ho
  · exact hk j hj (by omega)
theorem key_of (s : ByteArray) (b : Bool) (hb : Hid (b = true ↔ keyP s)) (h : ¬ keyP s) : b = false := by
  cases b
  · rfl
  · exact (h (hb.out.1 rfl)).elim
theorem key_short (s : ByteArray) (b : Bool) (hb : Hid (b = true ↔ keyP s)) (h : s.size < 1) : b = false := key_of s b hb fun ⟨a, _⟩ => by omega
theorem key_long (s : ByteArray) (b : Bool) (hb : Hid (b = true ↔ keyP s)) (h : 6 < s.size) : b = false := key_of s b hb fun ⟨_, a, _⟩ => by omega
theorem key_no (s : ByteArray) (b : Bool) (hb : Hid (b = true ↔ keyP s)) (k : Nat) (h : k < s.size) (ho : ¬ (97 ≤ (s[k]'h).toNat ∧ (s[k]'h).toNat ≤ 122)) : b = false := key_of s b hb fun ⟨_, _, a⟩ => ho (a k h h)
theorem key_yes (s : ByteArray) (b : Bool) (hb : Hid (b = true ↔ keyP s)) (h : 1 ≤ s.size) (h6 : s.size ≤ 6) (k : Nat) (hk : s.size ≤ k) (ho : keyTo s k) : b = true :=
  hb.out.2 ⟨h, h6, fun j hj _ => ho j hj (by omega)⟩
theorem key_end (s : ByteArray) (b : Bool) (hb : Hid (b = true ↔ keyP s)) (k : Nat) (hk : s.size ≤ k) (ho : keyTo s k) : b = (decide ((1 : Int) ≤ (s.size : Int)) && decide ((s.size : Int) ≤ 6)) := by
  by_cases h1 : 1 ≤ s.size
  · by_cases h6 : s.size ≤ 6
    · rw [key_yes s b hb h1 h6 k hk ho]; simp; omega
    · rw [key_long s b hb (by omega)]; simp; omega
  · rw [key_short s b hb (by omega)]; simp; omega

theorem in_any (n lo hi : Int) (w : World) :
    Calls Tryd.prog 16 #[.int .i64 n, .int .i64 lo, .int .i64 hi] w fun e w' => e = .returned (.bool (decide (lo ≤ n) && decide (n ≤ hi))) ∧ w' = w := by
  by_cases h1 : lo ≤ n <;> by_cases h2 : n ≤ hi
  all_goals
    have e1 : Hid (decide (lo ≤ n) = true ↔ lo ≤ n) := ⟨fun h => of_decide_eq_true h, fun h => decide_eq_true h⟩
    go_enter Tryd.func16, Tryd.ntmps16
    go_wp2
    go_ret
    exact ⟨ret_bool (by simp [h1, h2]), rfl⟩

set_option maxHeartbeats 2000000 in
theorem specKey_any (s : ByteArray) (b : Bool) (hb0 : b = true ↔ keyP s) (w : World) (hs : s.size < 1099511627776) :
    Calls Tryd.prog 32 #[.string s] w fun e w' => e = .returned (.bool b) ∧ w' = w := by
  have hb : Hid (b = true ↔ keyP s) := hb0
  clear hb0
  go_enter Tryd.func32, Tryd.ntmps32
  go_wp2
  go_loopw [3] (fun s3 wr => ∃ i : Nat, i ≤ s.size ∧ s3 = .int .i64 i ∧ keyTo s i ∧ wr = w) (fun s3 _ => s.size - (intOf s3).toNat)
  case atStart => exact ⟨0, by omega, rfl, keyTo_zero s, rfl⟩
  case round =>
    obtain ⟨i, hi, rfl, hk0, rfl⟩ := hrel
    have hk : Hid (keyTo s i) := hk0
    clear hk0
    have kk : (0 : Int) ≤ (i : Int) := by omega
    by_cases hlt : i < s.size
    · have hlt' : (i : Int) < (s.size : Int) := by omega
      obtain ⟨c, hc⟩ : ∃ c : Nat, c = (s[i]'hlt).toNat := ⟨_, rfl⟩
      have hgi : ∀ h : i < s.size, ((s[i]'h).toNat : Int) = (c : Int) := fun h => by rw [hc]
      have hc256 : c < 256 := by rw [hc]; exact (s[i]'hlt).toNat_lt
      have HC : Hid (c = (s[i]'hlt).toNat) := hc
      clear hc
      by_cases h1 : c < 97
      · have h1' : (c : Int) < 97 := by omega
        have HB : Hid (b = false) := key_no s b hb i hlt (by rw [← HC.out]; omega)
        go_wp2
        go_ret
        exact ⟨ret_bool HB.out.symm, rfl⟩
      · have h1' : ¬ (c : Int) < 97 := by omega
        by_cases h2 : 122 < c
        · have h2' : 122 < (c : Int) := by omega
          have HB : Hid (b = false) := key_no s b hb i hlt (by rw [← HC.out]; omega)
          go_wp2
          go_ret
          exact ⟨ret_bool HB.out.symm, rfl⟩
        · have h2' : ¬ 122 < (c : Int) := by omega
          have HN : Hid (keyTo s (i + 1)) := keyTo_succ s i hlt hk.out (by rw [← HC.out]; omega)
          go_wp2
          go_roundw
          case rel => exact ⟨i + 1, by omega, by go_num, HN.out, by first | rfl | trivial⟩
          case measure => simp [intOf]; omega
    · have hlt' : ¬ (i : Int) < (s.size : Int) := by omega
      have HE : Hid (i = s.size) := (show i = s.size by omega)
      have HB : Hid (b = (decide ((1 : Int) ≤ (s.size : Int)) && decide ((s.size : Int) ≤ 6))) := key_end s b hb i (by rw [HE.out]; exact Nat.le_refl _) hk.out
      go_wp2_with fail
      refine (in_any _ _ _ _).mono ?_
      rintro e w1 ⟨rfl, rfl⟩
      go_wp2
      go_ret
      exact ⟨ret_bool HB.out.symm, rfl⟩

set_option maxHeartbeats 2000000 in
theorem implKey_any (s : ByteArray) (b : Bool) (hb0 : b = true ↔ keyP s) (w : World) (hs : s.size < 1099511627776) :
    Calls Tryd.prog 27 #[.string s] w fun e w' => e = .returned (.bool b) ∧ w' = w := by
  have hb : Hid (b = true ↔ keyP s) := hb0
  clear hb0
  by_cases h0 : s.size < 1
  · have HB : Hid (b = false) := key_short s b hb h0
    have h0' : ((s.size : Int)) < 1 := by omega
    go_enter Tryd.func27, Tryd.ntmps27
    go_wp2
    go_ret
    exact ⟨ret_bool HB.out.symm, rfl⟩
  by_cases h40 : 6 < s.size
  · have HB : Hid (b = false) := key_long s b hb h40
    have h0' : ¬ ((s.size : Int)) < 1 := by omega
    have h40' : 6 < (s.size : Int) := by omega
    go_enter Tryd.func27, Tryd.ntmps27
    go_wp2
    go_ret
    exact ⟨ret_bool HB.out.symm, rfl⟩
  have h0' : ¬ ((s.size : Int)) < 1 := by omega
  have h40' : ¬ 6 < (s.size : Int) := by omega
  have H0 : Hid (1 ≤ s.size) := (show 1 ≤ s.size by omega)
  have H6 : Hid (s.size ≤ 6) := (show s.size ≤ 6 by omega)
  go_enter Tryd.func27, Tryd.ntmps27
  go_wp2
  go_loopw [3, 14] (fun s3 s14 wr => ∃ i : Nat, i ≤ s.size ∧ s14 = .int .i64 i ∧ keyTo s i ∧ wr = w) (fun _ s14 _ => s.size - (intOf s14).toNat)
  case atStart => exact ⟨0, by omega, rfl, keyTo_zero s, rfl⟩
  case round =>
    obtain ⟨i, hi, rfl, hk0, rfl⟩ := hrel
    have hk : Hid (keyTo s i) := hk0
    clear hk0
    have kk : (0 : Int) ≤ (i : Int) := by omega
    by_cases hlt : i < s.size
    · have hlt' : (i : Int) < (s.size : Int) := by omega
      obtain ⟨c, hc⟩ : ∃ c : Nat, c = (s[i]'hlt).toNat := ⟨_, rfl⟩
      have hgi : ∀ h : i < s.size, ((s[i]'h).toNat : Int) = (c : Int) := fun h => by rw [hc]
      have hc256 : c < 256 := by rw [hc]; exact (s[i]'hlt).toNat_lt
      have HC : Hid (c = (s[i]'hlt).toNat) := hc
      clear hc
      by_cases h1 : c < 97
      · have h1' : (c : Int) < 97 := by omega
        have HB : Hid (b = false) := key_no s b hb i hlt (by rw [← HC.out]; omega)
        go_wp2
        go_ret
        exact ⟨ret_bool HB.out.symm, rfl⟩
      · have h1' : ¬ (c : Int) < 97 := by omega
        by_cases h2 : 122 < c
        · have h2' : 122 < (c : Int) := by omega
          have HB : Hid (b = false) := key_no s b hb i hlt (by rw [← HC.out]; omega)
          go_wp2
          go_ret
          exact ⟨ret_bool HB.out.symm, rfl⟩
        · have h2' : ¬ 122 < (c : Int) := by omega
          have HN : Hid (keyTo s (i + 1)) := keyTo_succ s i hlt hk.out (by rw [← HC.out]; omega)
          go_wp2
          go_roundw
          case rel => exact ⟨i + 1, by omega, by go_num, HN.out, by first | rfl | trivial⟩
          case measure => simp [intOf]; omega
    · have hlt' : ¬ (i : Int) < (s.size : Int) := by omega
      have HE : Hid (i = s.size) := (show i = s.size by omega)
      have HB : Hid (b = true) := key_yes s b hb H0.out H6.out i (by rw [HE.out]; exact Nat.le_refl _) hk.out
      go_wp2
      go_ret
      exact ⟨ret_bool HB.out.symm, rfl⟩


theorem in_yes (n lo hi : Int) (w : World) (h1 : lo ≤ n) (h2 : n ≤ hi) : Calls Tryd.prog 16 #[.int .i64 n, .int .i64 lo, .int .i64 hi] w fun e w' => e = .returned (.bool true) ∧ w' = w := by
  refine (in_any n lo hi w).mono ?_
  rintro e w' ⟨rfl, rfl⟩
  exact ⟨ret_bool (by simp [h1, h2]), rfl⟩
theorem in_no (n lo hi : Int) (w : World) (h : ¬ (lo ≤ n ∧ n ≤ hi)) : Calls Tryd.prog 16 #[.int .i64 n, .int .i64 lo, .int .i64 hi] w fun e w' => e = .returned (.bool false) ∧ w' = w := by
  refine (in_any n lo hi w).mono ?_
  rintro e w' ⟨rfl, rfl⟩
  refine ⟨ret_bool ?_, rfl⟩
  by_cases h1 : lo ≤ n
  · by_cases h2 : n ≤ hi
    · exact (h ⟨h1, h2⟩).elim
    · simp [h2]
  · simp [h1]
end Go.Proofs.YtdepclilngaacaaDoor

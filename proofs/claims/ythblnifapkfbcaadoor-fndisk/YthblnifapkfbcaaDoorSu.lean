/- A text's sum, on both sides. -/
import Derived.Test.YthblnifapkfbcaaDoorRows
import Derived.WalkKit
import Derived.WalkSpells
import Derived.WalkLawsBesides
import Derived.Deep.QuietTactic
import Derived.BigQuiet
import Derived.Deep.RegionHeld3
import Derived.Test.YthblnifapkfbcaaDoorDn
import Derived.LoopN
namespace Go.Proofs.YthblnifapkfbcaaDoor
open Go.RowKit
set_option linter.unusedSimpArgs false
set_option linter.unusedVariables false

/-- The sum of a text's first bytes. -/
def sumTo (s : ByteArray) : Nat → Nat
  | 0 => 0
  | k + 1 => (sumTo s k + (k + 1) * ((s.data.toList.getD k 0).toNat + 1)) % 9973
theorem sumTo_lt (s : ByteArray) (k : Nat) : sumTo s k < 9973 := by
  cases k with
  | zero => simp [sumTo]
  | succ k => exact Nat.mod_lt _ (by omega)
theorem sumTo_next (s : ByteArray) (k : Nat) (h : k < s.size) : sumTo s (k + 1) = (sumTo s k + (k + 1) * ((s[k]'h).toNat + 1)) % 9973 := by
  have e : s.data.toList.getD k 0 = s[k]'h := by
    have h' : k < s.data.toList.length := by simpa using h
    rw [List.getD_eq_getElem?_getD, List.getElem?_eq_getElem h']
    simp
    rfl
  rw [← e]; rfl
theorem prod_small (i c : Nat) (hi : i < 1099511627776) (hc : c < 256) : (i + 1) * (c + 1) ≤ 281474976710656 := Nat.le_trans (Nat.mul_le_mul (show i + 1 ≤ 1099511627776 by omega) (show c + 1 ≤ 256 by omega)) (by decide)

set_option maxHeartbeats 2000000 in
theorem specSum_any (s : ByteArray) (w : World) (hs : s.size < 1099511627776) :
    Calls Tryd.prog 40 #[.string s] w fun e w' => e = .returned (.int .i64 (sumTo s s.size : Nat)) ∧ Below w.heap.size w w' := by
  go_enter Tryd.func40, Tryd.ntmps40
  go_wp2
  go_loopw [3, 4] (fun s3 s4 wr => ∃ i : Nat, i ≤ s.size ∧ s4 = .int .i64 i ∧ s3 = .int .i64 (sumTo s i : Nat) ∧ wr = w) (fun _ s4 _ => s.size - (intOf s4).toNat)
  case atStart => exact ⟨0, by omega, rfl, rfl, rfl⟩
  case round =>
    obtain ⟨i, hi, rfl, rfl, rfl⟩ := hrel
    obtain ⟨n, hn⟩ : ∃ n, n = sumTo s i := ⟨_, rfl⟩
    have hnb : n < 9973 := by rw [hn]; exact sumTo_lt s i
    have HN : Hid (n = sumTo s i) := hn
    rw [← hn]
    clear hn
    have kk : (0 : Int) ≤ (i : Int) := by omega
    by_cases hlt : i < s.size
    · have hlt' : (i : Int) < (s.size : Int) := by omega
      obtain ⟨c, hc⟩ : ∃ c : Nat, c = (s[i]'hlt).toNat := ⟨_, rfl⟩
      have hgi : ∀ h : i < s.size, ((s[i]'h).toNat : Int) = (c : Int) := fun h => by rw [hc]
      have hc256 : c < 256 := by rw [hc]; exact (s[i]'hlt).toNat_lt
      have HC : Hid (c = (s[i]'hlt).toNat) := hc
      clear hc
      obtain ⟨p, hp⟩ : ∃ p : Nat, p = (i + 1) * (c + 1) := ⟨_, rfl⟩
      have hpb : p ≤ 281474976710656 := by rw [hp]; exact prod_small i c (by omega) hc256
      have HP : Hid (p = (i + 1) * (c + 1)) := hp
      have hpi : ((i : Int) + 1) * ((c : Int) + 1) = (p : Int) := by rw [hp]; simp
      have hpi' : IntKind.i64.wrap (((i : Int) + 1) * ((c : Int) + 1)) = (p : Int) := by rw [hpi, IntKind.wrap_i64]; omega
      clear hp
      have q1 : IntKind.i64.wrap ((c : Int)) = (c : Int) := by rw [IntKind.wrap_i64]; omega
      have q2 : IntKind.i64.wrap ((n : Int) + (p : Int)) = (n : Int) + (p : Int) := by rw [IntKind.wrap_i64]; omega
      have q3 : ((n : Int) + (p : Int)).tmod 9973 = ((n : Int) + (p : Int)) % 9973 := Int.tmod_eq_emod_of_nonneg (by omega)
      have q4 : IntKind.i64.wrap (((n : Int) + (p : Int)) % 9973) = ((n : Int) + (p : Int)) % 9973 := by rw [IntKind.wrap_i64]; omega
      have HR : Hid (((n : Int) + (p : Int)) % 9973 = ((sumTo s (i + 1) : Nat) : Int)) := by
        show _ = _
        rw [sumTo_next s i hlt, ← HN.out, ← HC.out, ← HP.out]
        simp
      go_wp2
      go_roundw
      case rel => exact ⟨i + 1, by omega, by go_num, by rw [← HR.out], by first | rfl | trivial⟩
      case measure => simp [intOf]; omega
    · have hlt' : ¬ (i : Int) < (s.size : Int) := by omega
      have HE : Hid (i = s.size) := (show i = s.size by omega)
      go_wp2
      go_ret
      exact ⟨(ret_int (by rw [HN.out, HE.out])), Below.refl _ _⟩

set_option maxHeartbeats 2000000 in
theorem implSum_any (s : ByteArray) (w : World) (hs : s.size < 1099511627776) :
    Calls Tryd.prog 33 #[.string s] w fun e w' => e = .returned (.int .i64 (sumTo s s.size : Nat)) ∧ Below w.heap.size w w' := by
  go_enter Tryd.func33, Tryd.ntmps33
  go_wp2
  go_loopw [3, 4, 7] (fun s3 s4 s7 wr => ∃ i : Nat, i ≤ s.size ∧ s7 = .int .i64 i ∧ s3 = .int .i64 (sumTo s i : Nat) ∧ wr = w) (fun _ _ s7 _ => s.size - (intOf s7).toNat)
  case atStart => exact ⟨0, by omega, rfl, rfl, rfl⟩
  case round =>
    obtain ⟨i, hi, rfl, rfl, rfl⟩ := hrel
    obtain ⟨n, hn⟩ : ∃ n, n = sumTo s i := ⟨_, rfl⟩
    have hnb : n < 9973 := by rw [hn]; exact sumTo_lt s i
    have HN : Hid (n = sumTo s i) := hn
    rw [← hn]
    clear hn
    have kk : (0 : Int) ≤ (i : Int) := by omega
    by_cases hlt : i < s.size
    · have hlt' : (i : Int) < (s.size : Int) := by omega
      obtain ⟨c, hc⟩ : ∃ c : Nat, c = (s[i]'hlt).toNat := ⟨_, rfl⟩
      have hgi : ∀ h : i < s.size, ((s[i]'h).toNat : Int) = (c : Int) := fun h => by rw [hc]
      have hc256 : c < 256 := by rw [hc]; exact (s[i]'hlt).toNat_lt
      have HC : Hid (c = (s[i]'hlt).toNat) := hc
      clear hc
      obtain ⟨p, hp⟩ : ∃ p : Nat, p = (i + 1) * (c + 1) := ⟨_, rfl⟩
      have hpb : p ≤ 281474976710656 := by rw [hp]; exact prod_small i c (by omega) hc256
      have HP : Hid (p = (i + 1) * (c + 1)) := hp
      have hpi : ((i : Int) + 1) * ((c : Int) + 1) = (p : Int) := by rw [hp]; simp
      have hpi' : IntKind.i64.wrap (((i : Int) + 1) * ((c : Int) + 1)) = (p : Int) := by rw [hpi, IntKind.wrap_i64]; omega
      clear hp
      have q1 : IntKind.i64.wrap ((c : Int)) = (c : Int) := by rw [IntKind.wrap_i64]; omega
      have q2 : IntKind.i64.wrap ((n : Int) + (p : Int)) = (n : Int) + (p : Int) := by rw [IntKind.wrap_i64]; omega
      have q3 : ((n : Int) + (p : Int)).tmod 9973 = ((n : Int) + (p : Int)) % 9973 := Int.tmod_eq_emod_of_nonneg (by omega)
      have q4 : IntKind.i64.wrap (((n : Int) + (p : Int)) % 9973) = ((n : Int) + (p : Int)) % 9973 := by rw [IntKind.wrap_i64]; omega
      have HR : Hid (((n : Int) + (p : Int)) % 9973 = ((sumTo s (i + 1) : Nat) : Int)) := by
        show _ = _
        rw [sumTo_next s i hlt, ← HN.out, ← HC.out, ← HP.out]
        simp
      go_wp2
      go_roundw
      case rel => exact ⟨i + 1, by omega, by go_num, by rw [← HR.out], by first | rfl | trivial⟩
      case measure => simp [intOf]; omega
    · have hlt' : ¬ (i : Int) < (s.size : Int) := by omega
      have HE : Hid (i = s.size) := (show i = s.size by omega)
      go_wp2
      go_ret
      exact ⟨(ret_int (by rw [HN.out, HE.out])), Below.refl _ _⟩

end Go.Proofs.YthblnifapkfbcaaDoor

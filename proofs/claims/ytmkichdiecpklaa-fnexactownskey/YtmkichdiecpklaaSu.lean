/- A text's sum, on both sides. -/
import Derived.Test.YtmkichdiecpklaaRows
import Derived.WalkKit
import Derived.WalkSpells
import Derived.WalkLawsBesides
import Derived.Deep.QuietTactic
import Derived.BigQuiet
import Derived.Deep.RegionHeld3
import Derived.LoopN
namespace Go.Proofs.Ytmkichdiecpklaa
open Go.RowKit
set_option linter.unusedSimpArgs false
set_option linter.unusedVariables false

theorem ret_bool {a b : Bool} (h : a = b) : Ending.returned (.bool a) = .returned (.bool b) := by rw [h]
theorem ret_int {k : IntKind} {a b : Int} (h : a = b) : Ending.returned (.int k a) = .returned (.int k b) := by rw [h]
theorem ret_ints {a b c d : Int} (h : a = b) (k : c = d) : Ending.returned (.tuple #[.int .i64 a, .int .i64 c]) = .returned (.tuple #[.int .i64 b, .int .i64 d]) := by rw [h, k]
theorem ret_bint {a b : Bool} {c d : Int} (h : a = b) (k : c = d) : Ending.returned (.tuple #[.bool a, .int .i64 c]) = .returned (.tuple #[.bool b, .int .i64 d]) := by rw [h, k]
theorem ret_vint {a b c a' b' c' : Int} {r r' : Int} (h : a = a') (k : b = b') (l : c = c') (m : r = r') : Ending.returned (.tuple #[.agg #[.int .i64 a, .int .i64 b, .int .i64 c], .int .i64 r]) = .returned (.tuple #[.agg #[.int .i64 a', .int .i64 b', .int .i64 c'], .int .i64 r']) := by rw [h, k, l, m]
theorem ret_v {a b c a' b' c' : Int} (h : a = a') (k : b = b') (l : c = c') : Ending.returned (.agg #[.int .i64 a, .int .i64 b, .int .i64 c]) = .returned (.agg #[.int .i64 a', .int .i64 b', .int .i64 c']) := by rw [h, k, l]
theorem bcell {W w1 : World} (hb : Below W.heap.size W w1) : (∀ b o, b < W.heap.size → w1.cell? ⟨b, o, none⟩ = W.cell? ⟨b, o, none⟩) ∧ (∀ b o, b < W.heap.size → w1.frozen? ⟨b, o, none⟩ = W.frozen? ⟨b, o, none⟩) :=
  ⟨fun b o h => hb.cell (p := ⟨b, o, none⟩) h, fun b o h => hb.frozen (p := ⟨b, o, none⟩) h⟩
theorem cell_next {W w1 : World} (hb : Below W.heap.size W w1) {b o : Nat} {v : Value} (h : W.cell? ⟨b, o, none⟩ = some v) (hs : b < W.heap.size) : w1.cell? ⟨b, o, none⟩ = some v := by
  rw [hb.cell (p := ⟨b, o, none⟩) hs]; exact h
theorem cell_set {W : World} {b o t j : Nat} {v u : Value} (h : W.cell? ⟨b, o, none⟩ = some v) (hne : b ≠ t) : (W.setCell ⟨t, j, none⟩ u).cell? ⟨b, o, none⟩ = some v := by
  rw [World.cell?_of_block (w := W) (Below.heap_setCell W ⟨t, j, none⟩ u b (by simpa using hne))]; exact h
theorem frozen_next {W w1 : World} (hb : Below W.heap.size W w1) {b o : Nat} (h : W.frozen? ⟨b, o, none⟩ = false) (hs : b < W.heap.size) : w1.frozen? ⟨b, o, none⟩ = false := by
  rw [hb.frozen (p := ⟨b, o, none⟩) hs]; exact h

/-- The sum of a text's first bytes. -/
def sumTo (s : ByteArray) : Nat → Nat
  | 0 => 0
  | k + 1 => (sumTo s k + (k + 1) * ((s.data.toList.getD k 0).toNat + 1)) % 9973
theorem sumTo_lt (s : ByteArray) (k : Nat) : sumTo s k < 9973 := by
  cases k with
  | zero => simp [sumTo]
  | succ k => exact Nat.mod_lt _ (by omega)
theorem sumTo_next (s : ByteArray) (k : Nat) (h : k < s.size) : sumTo s (k + 1) = (sumTo s k + (k + 1) * ((s[k]'h).toNat + 1)) % 9973 := by
  have e : s.data.toList.getD k 0 = s[k]'h := by
    have h' : k < s.data.toList.length := by simpa using h
    rw [List.getD_eq_getElem?_getD, List.getElem?_eq_getElem h']
    simp
    rfl
  rw [← e]; rfl
theorem prod_small (i c : Nat) (hi : i < 1099511627776) (hc : c < 256) : (i + 1) * (c + 1) ≤ 281474976710656 := Nat.le_trans (Nat.mul_le_mul (show i + 1 ≤ 1099511627776 by omega) (show c + 1 ≤ 256 by omega)) (by decide)

set_option maxHeartbeats 2000000 in
theorem specSum_any (s : ByteArray) (w : World) (hs : s.size < 1099511627776) :
    Calls Try.prog 28 #[.string s] w fun e w' => e = .returned (.int .i64 (sumTo s s.size : Nat)) ∧ Below w.heap.size w w' := by
  go_enter Try.func28, Try.ntmps28
  go_wp2
  go_loopw [3, 4] (fun s3 s4 wr => ∃ i : Nat, i ≤ s.size ∧ s4 = .int .i64 i ∧ s3 = .int .i64 (sumTo s i : Nat) ∧ wr = w) (fun _ s4 _ => s.size - (intOf s4).toNat)
  case atStart => exact ⟨0, by omega, rfl, rfl, rfl⟩
  case round =>
    obtain ⟨i, hi, rfl, rfl, rfl⟩ := hrel
    obtain ⟨n, hn⟩ : ∃ n, n = sumTo s i := ⟨_, rfl⟩
    have hnb : n < 9973 := by rw [hn]; exact sumTo_lt s i
    have HN : Hid (n = sumTo s i) := hn
    rw [← hn]
    clear hn
    have kk : (0 : Int) ≤ (i : Int) := by omega
    by_cases hlt : i < s.size
    · have hlt' : (i : Int) < (s.size : Int) := by omega
      obtain ⟨c, hc⟩ : ∃ c : Nat, c = (s[i]'hlt).toNat := ⟨_, rfl⟩
      have hgi : ∀ h : i < s.size, ((s[i]'h).toNat : Int) = (c : Int) := fun h => by rw [hc]
      have hc256 : c < 256 := by rw [hc]; exact (s[i]'hlt).toNat_lt
      have HC : Hid (c = (s[i]'hlt).toNat) := hc
      clear hc
      obtain ⟨p, hp⟩ : ∃ p : Nat, p = (i + 1) * (c + 1) := ⟨_, rfl⟩
      have hpb : p ≤ 281474976710656 := by rw [hp]; exact prod_small i c (by omega) hc256
      have HP : Hid (p = (i + 1) * (c + 1)) := hp
      have hpi : ((i : Int) + 1) * ((c : Int) + 1) = (p : Int) := by rw [hp]; simp
      have hpi' : IntKind.i64.wrap (((i : Int) + 1) * ((c : Int) + 1)) = (p : Int) := by rw [hpi, IntKind.wrap_i64]; omega
      clear hp
      have q1 : IntKind.i64.wrap ((c : Int)) = (c : Int) := by rw [IntKind.wrap_i64]; omega
      have q2 : IntKind.i64.wrap ((n : Int) + (p : Int)) = (n : Int) + (p : Int) := by rw [IntKind.wrap_i64]; omega
      have q3 : ((n : Int) + (p : Int)).tmod 9973 = ((n : Int) + (p : Int)) % 9973 := Int.tmod_eq_emod_of_nonneg (by omega)
      have q4 : IntKind.i64.wrap (((n : Int) + (p : Int)) % 9973) = ((n : Int) + (p : Int)) % 9973 := by rw [IntKind.wrap_i64]; omega
      have HR : Hid (((n : Int) + (p : Int)) % 9973 = ((sumTo s (i + 1) : Nat) : Int)) := by
        show _ = _
        rw [sumTo_next s i hlt, ← HN.out, ← HC.out, ← HP.out]
        simp
      go_wp2
      go_roundw
      case rel => exact ⟨i + 1, by omega, by go_num, by rw [← HR.out], by first | rfl | trivial⟩
      case measure => simp [intOf]; omega
    · have hlt' : ¬ (i : Int) < (s.size : Int) := by omega
      have HE : Hid (i = s.size) := (show i = s.size by omega)
      go_wp2
      go_ret
      exact ⟨(ret_int (by rw [HN.out, HE.out])), Below.refl _ _⟩

set_option maxHeartbeats 2000000 in
theorem implSum_any (s : ByteArray) (w : World) (hs : s.size < 1099511627776) :
    Calls Try.prog 31 #[.string s] w fun e w' => e = .returned (.int .i64 (sumTo s s.size : Nat)) ∧ Below w.heap.size w w' := by
  go_enter Try.func31, Try.ntmps31
  go_wp2
  go_loopw [3, 4, 7] (fun s3 s4 s7 wr => ∃ i : Nat, i ≤ s.size ∧ s7 = .int .i64 i ∧ s3 = .int .i64 (sumTo s i : Nat) ∧ wr = w) (fun _ _ s7 _ => s.size - (intOf s7).toNat)
  case atStart => exact ⟨0, by omega, rfl, rfl, rfl⟩
  case round =>
    obtain ⟨i, hi, rfl, rfl, rfl⟩ := hrel
    obtain ⟨n, hn⟩ : ∃ n, n = sumTo s i := ⟨_, rfl⟩
    have hnb : n < 9973 := by rw [hn]; exact sumTo_lt s i
    have HN : Hid (n = sumTo s i) := hn
    rw [← hn]
    clear hn
    have kk : (0 : Int) ≤ (i : Int) := by omega
    by_cases hlt : i < s.size
    · have hlt' : (i : Int) < (s.size : Int) := by omega
      obtain ⟨c, hc⟩ : ∃ c : Nat, c = (s[i]'hlt).toNat := ⟨_, rfl⟩
      have hgi : ∀ h : i < s.size, ((s[i]'h).toNat : Int) = (c : Int) := fun h => by rw [hc]
      have hc256 : c < 256 := by rw [hc]; exact (s[i]'hlt).toNat_lt
      have HC : Hid (c = (s[i]'hlt).toNat) := hc
      clear hc
      obtain ⟨p, hp⟩ : ∃ p : Nat, p = (i + 1) * (c + 1) := ⟨_, rfl⟩
      have hpb : p ≤ 281474976710656 := by rw [hp]; exact prod_small i c (by omega) hc256
      have HP : Hid (p = (i + 1) * (c + 1)) := hp
      have hpi : ((i : Int) + 1) * ((c : Int) + 1) = (p : Int) := by rw [hp]; simp
      have hpi' : IntKind.i64.wrap (((i : Int) + 1) * ((c : Int) + 1)) = (p : Int) := by rw [hpi, IntKind.wrap_i64]; omega
      clear hp
      have q1 : IntKind.i64.wrap ((c : Int)) = (c : Int) := by rw [IntKind.wrap_i64]; omega
      have q2 : IntKind.i64.wrap ((n : Int) + (p : Int)) = (n : Int) + (p : Int) := by rw [IntKind.wrap_i64]; omega
      have q3 : ((n : Int) + (p : Int)).tmod 9973 = ((n : Int) + (p : Int)) % 9973 := Int.tmod_eq_emod_of_nonneg (by omega)
      have q4 : IntKind.i64.wrap (((n : Int) + (p : Int)) % 9973) = ((n : Int) + (p : Int)) % 9973 := by rw [IntKind.wrap_i64]; omega
      have HR : Hid (((n : Int) + (p : Int)) % 9973 = ((sumTo s (i + 1) : Nat) : Int)) := by
        show _ = _
        rw [sumTo_next s i hlt, ← HN.out, ← HC.out, ← HP.out]
        simp
      go_wp2
      go_roundw
      case rel => exact ⟨i + 1, by omega, by go_num, by rw [← HR.out], by first | rfl | trivial⟩
      case measure => simp [intOf]; omega
    · have hlt' : ¬ (i : Int) < (s.size : Int) := by omega
      have HE : Hid (i = s.size) := (show i = s.size by omega)
      go_wp2
      go_ret
      exact ⟨(ret_int (by rw [HN.out, HE.out])), Below.refl _ _⟩

end Go.Proofs.Ytmkichdiecpklaa

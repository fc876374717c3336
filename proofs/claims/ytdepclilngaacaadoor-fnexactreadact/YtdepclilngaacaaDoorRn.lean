/- Numerals: digits and what they make (mathematics alone). -/
import Derived.Test.YtdepclilngaacaaDoorRows
import Derived.WalkKit
import Derived.WalkSpells
import Derived.WalkLawsBesides
import Derived.Deep.QuietTactic
import Derived.BigQuiet
import Derived.Deep.RegionHeld3
namespace Go.Proofs.YtdepclilngaacaaDoor
open Go.RowKit
set_option linter.unusedSimpArgs false
set_option linter.unusedVariables false

/-- A byte that is a digit. -/
def dg (c : UInt8) : Bool := decide (48 ≤ c.toNat ∧ c.toNat ≤ 57)
def ldG (most : Int) : List UInt8 → Nat → Int → Int × Nat
  | [], i, n => (n, i)
  | c :: l, i, n => if dg c = false then (n, i) else if 0 < i ∧ n = 0 then (0, 0) else if most < 10 * n + ((c.toNat : Int) - 48) then (0, 0) else ldG most l (i + 1) (10 * n + ((c.toNat : Int) - 48))
/-- The number of all digits that a text begins with, and how many they are. -/
def ld (most : Int) (l : List UInt8) : Int × Nat := ldG most l 0 0
def bl (s : ByteArray) : List UInt8 := s.data.toList
theorem bl_len (s : ByteArray) : (bl s).length = s.size := by
  unfold bl
  rw [Array.length_toList]
  rfl
theorem bl_drop (s : ByteArray) (k : Nat) (h : k < s.size) : (bl s).drop k = s[k] :: (bl s).drop (k + 1) := by
  rw [List.drop_eq_getElem_cons (by rw [bl_len]; exact h)]
  rfl
theorem ld_end (most : Int) (s : ByteArray) (k : Nat) (n : Int) (h : ¬ k < s.size) : ldG most ((bl s).drop k) k n = (n, k) := by
  rw [List.drop_of_length_le (by rw [bl_len]; omega), ldG]
theorem ld_no (most : Int) (s : ByteArray) (k : Nat) (n : Int) (h : k < s.size) (hd : dg s[k] = false) : ldG most ((bl s).drop k) k n = (n, k) := by
  rw [bl_drop s k h, ldG, if_pos hd]
theorem ld_zero (most : Int) (s : ByteArray) (k : Nat) (n : Int) (h : k < s.size) (hd : dg s[k] = true) (hz : 0 < k ∧ n = 0) : ldG most ((bl s).drop k) k n = (0, 0) := by
  rw [bl_drop s k h, ldG, if_neg (by simp [hd]), if_pos hz]
theorem ld_big (most : Int) (s : ByteArray) (k : Nat) (n : Int) (h : k < s.size) (hd : dg s[k] = true) (hz : ¬ (0 < k ∧ n = 0)) (hb : most < 10 * n + ((s[k].toNat : Int) - 48)) : ldG most ((bl s).drop k) k n = (0, 0) := by
  rw [bl_drop s k h, ldG, if_neg (by simp [hd]), if_neg hz, if_pos hb]
theorem ld_more (most : Int) (s : ByteArray) (k : Nat) (n : Int) (h : k < s.size) (hd : dg s[k] = true) (hz : ¬ (0 < k ∧ n = 0)) (hb : ¬ most < 10 * n + ((s[k].toNat : Int) - 48)) : ldG most ((bl s).drop k) k n = ldG most ((bl s).drop (k + 1)) (k + 1) (10 * n + ((s[k].toNat : Int) - 48)) := by
  rw [bl_drop s k h, ldG, if_neg (by simp [hd]), if_neg hz, if_neg hb]
/-- What digits make. -/
def nv (l : List UInt8) : Int := l.foldl (fun n c => 10 * n + ((c.toNat : Int) - 48)) 0
/-- A numeral: digits, none needless ahead. -/
def Num (l : List UInt8) : Prop := l ≠ [] ∧ (∀ c ∈ l, dg c = true) ∧ (1 < l.length → l.head? ≠ some 48)
theorem nv_snoc (l : List UInt8) (c : UInt8) : nv (l ++ [c]) = 10 * nv l + ((c.toNat : Int) - 48) := by simp [nv, List.foldl_append]
theorem dg_iff {c : UInt8} : dg c = true ↔ 48 ≤ c.toNat ∧ c.toNat ≤ 57 := by simp [dg]
theorem nv_nonneg {l : List UInt8} (h : ∀ c ∈ l, dg c = true) : 0 ≤ nv l := by
  have : ∀ (m : List UInt8) (n : Int), 0 ≤ n → (∀ c ∈ m, dg c = true) → 0 ≤ m.foldl (fun n c => 10 * n + ((c.toNat : Int) - 48)) n := by
    intro m
    induction m with
    | nil => intro n hn _; exact hn
    | cons c m ih =>
      intro n hn hm
      have hc := dg_iff.1 (hm c (by simp))
      exact ih _ (by show 0 ≤ 10 * n + ((c.toNat : Int) - 48); omega) (fun d hd => hm d (List.mem_cons_of_mem _ hd))
  exact this l 0 (by omega) h
theorem fold_ge : ∀ (m : List UInt8) (n : Int), 0 ≤ n → (∀ c ∈ m, dg c = true) → n ≤ m.foldl (fun n c => 10 * n + ((c.toNat : Int) - 48)) n
  | [], n, _, _ => Int.le_refl _
  | c :: m, n, hn, hm => by
    have hc := dg_iff.1 (hm c (by simp))
    have := fold_ge m (10 * n + ((c.toNat : Int) - 48)) (by omega) (fun d hd => hm d (List.mem_cons_of_mem _ hd))
    simp only [List.foldl_cons]
    omega
/-- The general step: from a number that is above 0, or at the beginning. -/
theorem ldG_all (most : Int) : ∀ (l : List UInt8) (i : Nat) (n : Int), 0 ≤ n → n ≤ most → (0 < i → 0 < n ∨ l = []) → (∀ c ∈ l, dg c = true) → (i = 0 → n = 0 ∧ (1 < l.length → l.head? ≠ some 48)) → l.foldl (fun n c => 10 * n + ((c.toNat : Int) - 48)) n ≤ most → ldG most l i n = (l.foldl (fun n c => 10 * n + ((c.toNat : Int) - 48)) n, i + l.length)
  | [], i, n, _, _, _, _, _, _ => by simp [ldG]
  | c :: l, i, n, hn, hm, hi, hd, h0, hb => by
    have hc := hd c (by simp)
    have hc' := dg_iff.1 hc
    have hge := fold_ge l (10 * n + ((c.toNat : Int) - 48)) (by omega) (fun d hd' => hd d (List.mem_cons_of_mem _ hd'))
    simp only [List.foldl_cons] at hb
    rw [ldG, if_neg (by simp [hc])]
    have hz : ¬ (0 < i ∧ n = 0) := by
      rintro ⟨h1, h2⟩
      rcases hi h1 with h3 | h3
      · omega
      · cases h3
    rw [if_neg hz, if_neg (by omega)]
    rw [ldG_all most l (i + 1) _ (by omega) (by omega) (fun _ => ?_) (fun d hd' => hd d (List.mem_cons_of_mem _ hd')) (fun h => by omega) hb]
    · simp only [List.foldl_cons, List.length_cons]
      congr 1
      omega
    · by_cases hi0 : i = 0
      · obtain ⟨hn0, hh⟩ := h0 hi0
        cases l with
        | nil => exact .inr rfl
        | cons d l =>
          left
          have : c ≠ 48 := fun e => hh (by simp) (by simp [e])
          have : c.toNat ≠ 48 := fun e => this (UInt8.toNat_inj.1 (by simpa using e))
          omega
      · left
        rcases hi (by omega) with h3 | h3
        · omega
        · cases h3
/-- A numeral of at most most is read whole. -/
theorem ld_num {most : Int} {l : List UInt8} (h : Num l) (h0 : 0 ≤ most) (hb : nv l ≤ most) : ld most l = (nv l, l.length) := by
  have := ldG_all most l 0 0 (by omega) h0 (fun h => by omega) h.2.1 (fun _ => ⟨rfl, h.2.2⟩) hb
  rw [Nat.zero_add] at this
  exact this
/-- What is read whole is a numeral of at most most, and its number is what the digits make. -/
theorem ldG_conv (most : Int) : ∀ (l : List UInt8) (i : Nat) (n m : Int), ldG most l i n = (m, i + l.length) → 0 < i + l.length → (∀ c ∈ l, dg c = true) ∧ m = l.foldl (fun n c => 10 * n + ((c.toNat : Int) - 48)) n ∧ (l ≠ [] → m ≤ most) ∧ (l ≠ [] → 0 < i → n ≠ 0) ∧ (i = 0 → n = 0 → 1 < l.length → l.head? ≠ some 48)
  | [], i, n, m, h, _ => by
    simp only [ldG, List.length_nil, Nat.add_zero, Prod.mk.injEq] at h
    refine ⟨?_, h.1.symm, ?_, ?_, ?_⟩
    · intro c hc; cases hc
    · intro h; exact (h rfl).elim
    · intro h; exact (h rfl).elim
    · intro _ _ h; simp at h
  | c :: l, i, n, m, h, hp => by
    rw [ldG] at h
    by_cases hd : dg c = false
    · rw [if_pos hd] at h
      simp only [List.length_cons, Prod.mk.injEq] at h
      omega
    · rw [if_neg hd] at h
      by_cases hz : 0 < i ∧ n = 0
      · rw [if_pos hz] at h
        simp only [List.length_cons, Prod.mk.injEq] at h
        omega
      · rw [if_neg hz] at h
        by_cases hb : most < 10 * n + ((c.toNat : Int) - 48)
        · rw [if_pos hb] at h
          simp only [List.length_cons, Prod.mk.injEq] at h
          omega
        · rw [if_neg hb] at h
          have e : i + (c :: l).length = (i + 1) + l.length := by simp; omega
          rw [e] at h
          obtain ⟨h1, h2, h3, h4, h5⟩ := ldG_conv most l (i + 1) _ m h (by omega)
          refine ⟨fun d hd' => ?_, ?_, fun _ => ?_, fun _ hi hn => hz ⟨hi, hn⟩, fun hi hn hlen => ?_⟩
          · rcases List.mem_cons.1 hd' with e' | e'
            · subst e'; simpa using hd
            · exact h1 d e'
          · rw [List.foldl_cons]; exact h2
          · cases l with
            | nil => simp only [List.foldl_nil] at h2; omega
            | cons d l => exact h3 (by simp)
          · have hl : l ≠ [] := fun e' => by rw [e'] at hlen; simp at hlen
            have := h4 hl (by omega)
            subst hn
            intro e'
            simp at e'
            subst e'
            simp at this
theorem num_ld {most : Int} {l : List UInt8} {m : Int} (h : ld most l = (m, l.length)) (hl : 0 < l.length) : Num l ∧ m = nv l ∧ nv l ≤ most := by
  have h' : ldG most l 0 0 = (m, 0 + l.length) := by rw [Nat.zero_add]; exact h
  obtain ⟨h1, h2, h3, _, h5⟩ := ldG_conv most l 0 0 m h' (by omega)
  have hne : l ≠ [] := fun e => by rw [e] at hl; simp at hl
  refine ⟨⟨hne, h1, h5 rfl rfl⟩, h2, ?_⟩
  have := h3 hne
  rw [h2] at this
  exact this
theorem ldG_bound (most : Int) (h0 : 0 ≤ most) : ∀ (l : List UInt8) (i : Nat) (n : Int), 0 ≤ n → n ≤ most → 0 ≤ (ldG most l i n).1 ∧ (ldG most l i n).1 ≤ most ∧ (ldG most l i n).2 ≤ i + l.length
  | [], i, n, h1, h2 => by simp [ldG, h1, h2]
  | c :: l, i, n, h1, h2 => by
    rw [ldG]
    by_cases hd : dg c = false
    · rw [if_pos hd]; exact ⟨h1, h2, by simp⟩
    · rw [if_neg hd]
      have hc := dg_iff.1 (show dg c = true by simpa using hd)
      by_cases hz : 0 < i ∧ n = 0
      · rw [if_pos hz]; exact ⟨by simp, by simpa using h0, by simp⟩
      · rw [if_neg hz]
        by_cases hb : most < 10 * n + ((c.toNat : Int) - 48)
        · rw [if_pos hb]; exact ⟨by simp, by simpa using h0, by simp⟩
        · rw [if_neg hb]
          have := ldG_bound most h0 l (i + 1) (10 * n + ((c.toNat : Int) - 48)) (by omega) (by omega)
          simp only [List.length_cons]
          omega
theorem ld_bound {most : Int} (h0 : 0 ≤ most) (l : List UInt8) : 0 ≤ (ld most l).1 ∧ (ld most l).1 ≤ most ∧ (ld most l).2 ≤ l.length := by
  have := ldG_bound most h0 l 0 0 (by omega) h0
  rw [Nat.zero_add] at this
  exact this

/-- A number's digits. -/
def dsN (n : Nat) : List UInt8 := if h : n < 10 then [UInt8.ofNat (48 + n)] else dsN (n / 10) ++ [UInt8.ofNat (48 + n % 10)]
termination_by n
decreasing_by omega
theorem fold_pow : ∀ (m : List UInt8) (n : Int), 0 ≤ n → (∀ c ∈ m, dg c = true) → n * 10 ^ m.length ≤ m.foldl (fun n c => 10 * n + ((c.toNat : Int) - 48)) n
  | [], n, _, _ => by simp
  | c :: m, n, hn, hm => by
    have hc := dg_iff.1 (hm c (by simp))
    have ih := fold_pow m (10 * n + ((c.toNat : Int) - 48)) (by omega) (fun d hd => hm d (List.mem_cons_of_mem _ hd))
    simp only [List.foldl_cons, List.length_cons]
    have hp : (0 : Int) ≤ 10 ^ m.length := Int.pow_nonneg (by decide)
    have h1 : n * 10 ^ (m.length + 1) = (10 * n) * 10 ^ m.length := by rw [Int.pow_succ]; rw [Int.mul_comm (10 ^ m.length) 10, ← Int.mul_assoc, Int.mul_comm n 10]
    have h2 : (10 * n) * 10 ^ m.length ≤ (10 * n + ((c.toNat : Int) - 48)) * 10 ^ m.length := Int.mul_le_mul_of_nonneg_right (by omega) hp
    omega
theorem head_pos {l : List UInt8} (h : Num l) (hl : 1 < l.length) : ∃ c m, l = c :: m ∧ 49 ≤ c.toNat := by
  cases l with
  | nil => simp at hl
  | cons c m =>
    refine ⟨c, m, rfl, ?_⟩
    have h1 := h.2.2 hl
    have h2 := dg_iff.1 (h.2.1 c (by simp))
    have : c.toNat ≠ 48 := fun e => h1 (by rw [List.head?_cons]; congr 1; exact UInt8.toNat_inj.1 (by simpa using e))
    omega
theorem num_big {l : List UInt8} (h : Num l) (hl : 6 ≤ l.length) : 9999 < nv l := by
  obtain ⟨c, m, rfl, hc⟩ := head_pos h (by omega)
  have hm : ∀ d ∈ m, dg d = true := fun d hd => h.2.1 d (List.mem_cons_of_mem _ hd)
  have h1 := fold_pow m (10 * 0 + ((c.toNat : Int) - 48)) (by omega) hm
  have h2 : nv (c :: m) = m.foldl (fun n c => 10 * n + ((c.toNat : Int) - 48)) (10 * 0 + ((c.toNat : Int) - 48)) := rfl
  rw [h2]
  simp only [List.length_cons] at hl
  obtain ⟨k, hk⟩ : ∃ k, m.length = k + 5 := ⟨m.length - 5, by omega⟩
  rw [hk, Int.pow_add] at h1
  have hp : (1 : Int) ≤ 10 ^ k := by
    have : (0 : Int) < 10 ^ k := Int.pow_pos (by decide)
    omega
  have h3 : (100000 : Int) ≤ 10 ^ k * 10 ^ 5 := by
    have : (10 : Int) ^ 5 = 100000 := by decide
    rw [this]
    omega
  have h4 : (10 : Int) ^ k * 10 ^ 5 ≤ (10 * 0 + ((c.toNat : Int) - 48)) * (10 ^ k * 10 ^ 5) := by
    have h5 : 1 * ((10 : Int) ^ k * 10 ^ 5) ≤ (10 * 0 + ((c.toNat : Int) - 48)) * (10 ^ k * 10 ^ 5) := Int.mul_le_mul_of_nonneg_right (by omega) (by omega)
    rw [Int.one_mul] at h5
    exact h5
  omega
theorem dsN_snoc (n d : Nat) (hn : 0 < n) (hd : d < 10) : dsN (10 * n + d) = dsN n ++ [UInt8.ofNat (48 + d)] := by
  rw [dsN, dif_neg (by omega)]
  have e1 : (10 * n + d) / 10 = n := by omega
  have e2 : (10 * n + d) % 10 = d := by omega
  rw [e1, e2]
/-- A numeral is its number's digits. -/
theorem dsN_num : ∀ (k : Nat) (l : List UInt8), l.length = k → Num l → dsN (nv l).toNat = l := by
  intro k
  induction k with
  | zero => intro l hl h; exact (h.1 (List.length_eq_zero_iff.1 hl)).elim
  | succ k ih =>
    intro l hl h
    have hne := h.1
    obtain ⟨m, c, rfl⟩ : ∃ m c, l = m ++ [c] := ⟨l.dropLast, l.getLast hne, (List.dropLast_concat_getLast hne).symm⟩
    have hc := dg_iff.1 (h.2.1 c (by simp))
    have hcs : UInt8.ofNat (48 + (c.toNat - 48)) = c := by
      have : 48 + (c.toNat - 48) = c.toNat := by omega
      rw [this]
      exact UInt8.ofNat_toNat
    by_cases hm : m = []
    · subst hm
      have e : nv ([] ++ [c]) = (c.toNat : Int) - 48 := by simp [nv]
      rw [e]
      have e2 : ((c.toNat : Int) - 48).toNat = c.toNat - 48 := by omega
      rw [e2, dsN, dif_pos (by omega), hcs]
      rfl
    · have hml : 0 < m.length := List.length_pos_iff.2 hm
      have hnm : Num m := ⟨hm, fun d hd => h.2.1 d (by simp [hd]), fun h1 => by
        have := h.2.2 (by simp; omega)
        cases m with
        | nil => exact (hm rfl).elim
        | cons d r => simpa using this⟩
      have hpos : 0 < nv m := by
        obtain ⟨d, r, hdr, hd⟩ := head_pos h (by simp; omega)
        cases m with
        | nil => exact (hm rfl).elim
        | cons d' r' =>
          simp only [List.cons_append, List.cons.injEq] at hdr
          obtain ⟨rfl, _⟩ := hdr
          have h1 := fold_ge r' (10 * 0 + ((d'.toNat : Int) - 48)) (by omega) (fun x hx => hnm.2.1 x (List.mem_cons_of_mem _ hx))
          have h2 : nv (d' :: r') = r'.foldl (fun n c => 10 * n + ((c.toNat : Int) - 48)) (10 * 0 + ((d'.toNat : Int) - 48)) := rfl
          omega
      have ih' := ih m (by simp at hl; omega) hnm
      rw [nv_snoc]
      have e : (10 * nv m + ((c.toNat : Int) - 48)).toNat = 10 * (nv m).toNat + (c.toNat - 48) := by omega
      rw [e, dsN_snoc _ _ (by omega) (by omega), ih', hcs]
end Go.Proofs.YtdepclilngaacaaDoor

/- A line that is cut is none, wherever it is cut: the mathematics. -/
import Derived.Test.YthblnifapkfbcaaDoorRows
import Derived.WalkKit
import Derived.WalkSpells
import Derived.WalkLawsBesides
import Derived.Deep.QuietTactic
import Derived.BigQuiet
import Derived.Deep.RegionHeld3
import Derived.Test.YthblnifapkfbcaaDoorOp
namespace Go.Proofs.YthblnifapkfbcaaDoor
open Go.RowKit
set_option linter.unusedSimpArgs false
set_option linter.unusedVariables false

theorem ds_no58 : ∀ (n : Nat) (c : UInt8), c ∈ dsN n → c ≠ 58 := by
  intro n
  induction n using Nat.strongRecOn with
  | _ n ih =>
    intro c hc
    rw [dsN] at hc
    by_cases h : n < 10
    · rw [dif_pos h, List.mem_singleton] at hc
      subst hc
      intro e
      have := (c58 _).1 e
      rw [u8_small _ (by omega)] at this
      omega
    · rw [dif_neg h, List.mem_append, List.mem_singleton] at hc
      rcases hc with hc | hc
      · exact ih (n / 10) (by omega) c hc
      · subst hc
        intro e
        have := (c58 _).1 e
        rw [u8_small _ (by omega)] at this
        omega
def dval (l : List UInt8) : Nat := l.foldl (fun a c => a * 10 + (c.toNat - 48)) 0
theorem dval_ds : ∀ n : Nat, dval (dsN n) = n := by
  intro n
  induction n using Nat.strongRecOn with
  | _ n ih =>
    rw [dsN]
    by_cases h : n < 10
    · rw [dif_pos h]
      show 0 * 10 + ((UInt8.ofNat (48 + n)).toNat - 48) = n
      rw [u8_small _ (by omega)]
      omega
    · rw [dif_neg h]
      unfold dval
      rw [List.foldl_append]
      show (dval (dsN (n / 10))) * 10 + ((UInt8.ofNat (48 + n % 10)).toNat - 48) = n
      rw [ih (n / 10) (by omega), u8_small _ (by omega)]
      omega
theorem aft_skip : ∀ (a r : List UInt8), (∀ c ∈ a, c ≠ 58) → aft (a ++ 58 :: r) = some r := by
  intro a r
  induction a with
  | nil => intro _; simp [aft]
  | cons x a ih =>
    intro h
    show (if x = 58 then some (a ++ 58 :: r) else aft (a ++ 58 :: r)) = some r
    rw [if_neg (h x (by simp)), ih (fun c hc => h c (by simp [hc]))]
theorem aft_none : ∀ (a : List UInt8), (∀ c ∈ a, c ≠ 58) → aft a = none := by
  intro a
  induction a with
  | nil => intro _; rfl
  | cons x a ih =>
    intro h
    show (if x = 58 then some a else aft a) = none
    rw [if_neg (h x (by simp)), ih (fun c hc => h c (by simp [hc]))]
theorem split_eq : ∀ (a b x y : List UInt8), (∀ c ∈ a, c ≠ 58) → (∀ c ∈ b, c ≠ 58) → a ++ 58 :: x = b ++ 58 :: y → a = b := by
  intro a
  induction a with
  | nil =>
    intro b x y _ hb h
    cases b with
    | nil => rfl
    | cons c b =>
      have : (58 : UInt8) = c := by simpa using (List.cons.inj h).1
      exact (hb c (by simp) this.symm).elim
  | cons c a ih =>
    intro b x y ha hb h
    cases b with
    | nil =>
      have : c = 58 := by simpa using (List.cons.inj h).1
      exact (ha c (by simp) this).elim
    | cons d b =>
      have h1 := List.cons.inj h
      rw [h1.1, ih b x y (fun c hc => ha c (by simp [hc])) (fun c hc => hb c (by simp [hc])) h1.2]
theorem seal_bytes (t : ByteArray) : (sealS t).data.toList = dsN t.size ++ 58 :: (dsN (sumTo t t.size) ++ 58 :: t.data.toList) := by
  unfold sealS
  simp
theorem open_seal (t : ByteArray) : openO (sealS t) = some t := by
  unfold openO opn
  rw [seal_bytes, aft_skip _ _ (ds_no58 _)]
  show ((aft (dsN (sumTo t t.size) ++ 58 :: t.data.toList)).bind _) = _
  rw [aft_skip _ _ (ds_no58 _)]
  show (if sealS ⟨t.data.toList.toArray⟩ = sealS t then some (⟨t.data.toList.toArray⟩ : ByteArray) else none) = some t
  have e : (⟨t.data.toList.toArray⟩ : ByteArray) = t := by cases t; simp
  rw [e, if_pos rfl]
theorem take_app (a r : List UInt8) (k : Nat) (h : a.length < k) : (a ++ 58 :: r).take k = a ++ 58 :: r.take (k - a.length - 1) := by
  rw [List.take_append, List.take_of_length_le (by omega)]
  obtain ⟨j, hj⟩ : ∃ j, k - a.length = j + 1 := ⟨k - a.length - 1, by omega⟩
  rw [hj, List.take_succ_cons]
  simp
theorem open_torn (t : ByteArray) (k : Nat) (hk : k < (sealS t).size) (p : ByteArray) (hp : p.data.toList = (sealS t).data.toList.take k) : openO p = none := by
  unfold openO opn
  rw [hp, seal_bytes]
  obtain ⟨A, hA⟩ : ∃ A, A = dsN t.size := ⟨_, rfl⟩
  obtain ⟨B, hB⟩ : ∃ B, B = dsN (sumTo t t.size) := ⟨_, rfl⟩
  have nA : ∀ c ∈ A, c ≠ 58 := by rw [hA]; exact ds_no58 _
  have nB : ∀ c ∈ B, c ≠ 58 := by rw [hB]; exact ds_no58 _
  have hsz : (sealS t).size = A.length + 1 + B.length + 1 + t.size := by rw [sealS_size, hA, hB]
  rw [← hA, ← hB]
  by_cases h1 : k ≤ A.length
  · rw [List.take_append_of_le_length h1, aft_none _ (fun c hc => nA c (List.mem_of_mem_take hc))]
    rfl
  rw [take_app _ _ _ (by omega), aft_skip _ _ nA]
  show ((aft ((B ++ 58 :: t.data.toList).take (k - A.length - 1))).bind _) = none
  by_cases h2 : k - A.length - 1 ≤ B.length
  · rw [List.take_append_of_le_length h2, aft_none _ (fun c hc => nB c (List.mem_of_mem_take hc))]
    rfl
  rw [take_app _ _ _ (by omega), aft_skip _ _ nB]
  obtain ⟨j, hj⟩ : ∃ j, j = k - A.length - 1 - B.length - 1 := ⟨_, rfl⟩
  rw [← hj]
  show (if sealS ⟨(t.data.toList.take j).toArray⟩ = p then some (⟨(t.data.toList.take j).toArray⟩ : ByteArray) else none) = none
  rw [if_neg]
  intro e
  have e1 : (sealS ⟨(t.data.toList.take j).toArray⟩).data.toList = p.data.toList := by rw [e]
  have hjs : (⟨(t.data.toList.take j).toArray⟩ : ByteArray).size = j := by
    rw [ba_size, List.length_take, Array.length_toList]
    show min j t.size = j
    omega
  rw [seal_bytes, hp, seal_bytes, ← hA, ← hB, take_app _ _ _ (by omega), hjs] at e1
  have e2 := split_eq _ _ _ _ (ds_no58 j) nA e1
  have e3 : j = t.size := by
    have := congrArg dval e2
    rw [hA, dval_ds, dval_ds] at this
    exact this
  omega
theorem ex_take (s : ByteArray) (k : Nat) (h : k ≤ s.size) : (s.extract 0 k).data.toList = s.data.toList.take k := by
  rw [ByteArray.data_extract, Array.toList_extract]
  show (s.data.toList.drop 0).take (k - 0) = _
  simp
end Go.Proofs.YthblnifapkfbcaaDoor

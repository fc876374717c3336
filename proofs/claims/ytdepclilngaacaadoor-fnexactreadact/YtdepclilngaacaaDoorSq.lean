/- Numbers, as the specification reads them. -/
import Derived.Test.YtdepclilngaacaaDoorRows
import Derived.WalkKit
import Derived.WalkSpells
import Derived.WalkLawsBesides
import Derived.Deep.QuietTactic
import Derived.BigQuiet
import Derived.Deep.RegionHeld3
import Derived.Test.YtdepclilngaacaaDoorSn
import Derived.LoopN
import Derived.Deep.Cut
namespace Go.Proofs.YtdepclilngaacaaDoor
open Go.RowKit
set_option linter.unusedSimpArgs false
set_option linter.unusedVariables false

/-- What l00Number tells. -/
def NumR (l : List UInt8) (n : Int) (ok : Bool) : Prop := (Num l ∧ l.length ≤ 18 → ok = true ∧ n = nv l) ∧ (¬ (Num l ∧ l.length ≤ 18) → ok = true → n < 0)
theorem numr_no {l : List UInt8} (h : ¬ (Num l ∧ l.length ≤ 18)) : Hid (NumR l 0 false) := ⟨fun h' => (h h').elim, fun _ h' => by cases h'⟩
theorem bl_nil {s : ByteArray} (h : s.size = 0) : bl s = [] := List.length_eq_zero_iff.1 (by rw [bl_len]; exact h)
theorem bl_cons {s : ByteArray} (h : 0 < s.size) : bl s = s[0] :: (bl s).drop 1 := by have := bl_drop s 0 h; rwa [List.drop_zero] at this
theorem bl_mem {s : ByteArray} {i : Nat} (h : i < s.size) : s[i] ∈ bl s := by
  have : s[i] = (bl s)[i]'(by rw [bl_len]; exact h) := rfl
  rw [this]
  exact List.getElem_mem _
theorem numr_minus {s : ByteArray} {n : Int} {ok : Bool} (hs : 0 < s.size) (hc : (s[0]'hs).toNat = 45) (h : ok = true → n < 0) : Hid (NumR (bl s) n ok) := by
  have hn : ¬ (Num (bl s) ∧ (bl s).length ≤ 18) := fun h' => by
    have := dg_iff.1 (h'.1.2.1 _ (bl_mem hs))
    omega
  exact ⟨fun h' => (hn h').elim, fun _ => h⟩
theorem lead_no {s : ByteArray} (hs : 0 < s.size) (hc : (s[0]'hs).toNat = 48) (hl : 1 < s.size) (h : Num (bl s)) : False := by
  refine h.2.2 (by rw [bl_len]; exact hl) ?_
  rw [bl_cons hs, List.head?_cons]
  congr 1
  exact UInt8.toNat_inj.1 (by simpa using hc)
theorem dig_next {s : ByteArray} {i : Nat} (h : i < s.size) (hd : ∀ c ∈ (bl s).take i, dg c = true) (hc : dg s[i] = true) : Hid (∀ c ∈ (bl s).take (i + 1), dg c = true) := fun c hm => by
  rw [List.take_succ_eq_append_getElem (by rw [bl_len]; exact h), List.mem_append] at hm
  rcases hm with hm | hm
  · exact hd c hm
  · rw [List.mem_singleton] at hm
    rw [hm]
    exact hc
theorem nv_next {s : ByteArray} {i : Nat} (h : i < s.size) : nv ((bl s).take (i + 1)) = 10 * nv ((bl s).take i) + ((s[i].toNat : Int) - 48) := by
  rw [List.take_succ_eq_append_getElem (by rw [bl_len]; exact h), nv_snoc]
  rfl
theorem nv_lt : ∀ (k : Nat) (l : List UInt8), l.length = k → (∀ c ∈ l, dg c = true) → nv l < ((10 ^ k : Nat) : Int) := by
  intro k
  induction k with
  | zero => intro l hl _; rw [List.length_eq_zero_iff.1 hl]; simp [nv]
  | succ k ih =>
    intro l hl h
    have hne : l ≠ [] := fun e => by rw [e] at hl; simp at hl
    obtain ⟨m, c, rfl⟩ : ∃ m c, l = m ++ [c] := ⟨l.dropLast, l.getLast hne, (List.dropLast_concat_getLast hne).symm⟩
    have hc := dg_iff.1 (h c (by simp))
    have := ih m (by simp at hl; omega) (fun d hd => h d (by simp [hd]))
    rw [nv_snoc, Nat.pow_succ]
    omega
theorem nv_small {l : List UInt8} (h : ∀ c ∈ l, dg c = true) (hl : l.length ≤ 18) : nv l ≤ 999999999999999999 := by
  have h1 := nv_lt _ l rfl h
  have h2 : 10 ^ l.length ≤ 10 ^ 18 := Nat.pow_le_pow_right (by decide) hl
  have h3 : (10 : Nat) ^ 18 = 1000000000000000000 := by decide
  omega
theorem nv_small17 {l : List UInt8} (h : ∀ c ∈ l, dg c = true) (hl : l.length ≤ 17) : nv l ≤ 99999999999999999 := by
  have h1 := nv_lt _ l rfl h
  have h2 : 10 ^ l.length ≤ 10 ^ 17 := Nat.pow_le_pow_right (by decide) hl
  have h3 : (10 : Nat) ^ 17 = 100000000000000000 := by decide
  omega
theorem first_pos {s : ByteArray} (hs : 0 < s.size) (hc : ¬ (s[0]'hs).toNat = 48) (h : ∀ c ∈ bl s, dg c = true) : 0 < nv (bl s) := by
  have h0 := dg_iff.1 (h _ (bl_mem hs))
  have e := bl_cons hs
  have h1 := fold_ge ((bl s).drop 1) (10 * 0 + (((s[0]'hs).toNat : Int) - 48)) (by omega) (fun x hx => h x (List.mem_of_mem_drop hx))
  have h2 : nv (s[0] :: (bl s).drop 1) = ((bl s).drop 1).foldl (fun n c => 10 * n + ((c.toNat : Int) - 48)) (10 * 0 + (((s[0]'hs).toNat : Int) - 48)) := rfl
  rw [← e] at h2
  omega
theorem numr_yes {s : ByteArray} {v : Int} (hs : 0 < s.size) (h18 : s.size ≤ 18) (hc : ¬ ((s[0]'hs).toNat = 48 ∧ 1 < s.size)) (h : v = nv (bl s) ∧ ∀ c ∈ bl s, dg c = true) : Hid (NumR (bl s) v true) := by
  have hN : Num (bl s) := ⟨fun e => by have := bl_len s; rw [e] at this; simp at this; omega, h.2, fun hl => by
    rw [bl_len] at hl
    rw [bl_cons hs, List.head?_cons]
    intro e
    simp at e
    exact hc ⟨by rw [e]; rfl, hl⟩⟩
  exact ⟨fun _ => ⟨rfl, h.1⟩, fun h' => (h' ⟨hN, by rw [bl_len]; exact h18⟩).elim⟩
/-- What a call of l00Number leaves. -/
def NumP (s : ByteArray) (w : World) (e : Ending) (w' : World) : Prop := ∃ (n : Int) (ok : Bool), e = .returned (.tuple #[.int .i64 n, .bool ok]) ∧ NumR (bl s) n ok ∧ Below w.heap.size w w'
set_option maxHeartbeats 8000000 in
theorem l00num_any (s : ByteArray) (w : World) (hs : s.size ≤ 1048576) :
    Calls Tryd.prog 29 #[.string s] w fun e w' => NumP s w e w' := by
  by_cases hs00 : s.size = 0
  · have HF : Hid (NumR (bl s) 0 false) := numr_no (fun h => h.1.1 (bl_nil hs00))
    have h0 : ¬ (0 : Int) < (s.size : Int) := by omega
    go_enter Tryd.func29, Tryd.ntmps29
    go_wp2
    go_ret2
    exact ⟨0, false, rfl, HF.out, Below.refl _ _⟩
  have hs0 : 0 < s.size := by omega
  have hs0' : (0 : Int) < (s.size : Int) := by omega
  by_cases hc45 : (s[0]'hs0).toNat = 45
  · have hx : (((s[0]'hs0).toNat : Int) == 45) = true := by rw [beq_iff_eq]; omega
    have hx1 : (1 : Int) ≤ (s.size : Int) := by omega
    go_enter Tryd.func29, Tryd.ntmps29
    go_upto_region 5 with fail
    have hSz : (s.extract 1 s.size).size ≤ 1048576 := by rw [sl_size s 1 hs0]; omega
    clear hx hx1 hs0'
    generalize s.extract 1 s.size = S at *
    by_cases hz : S.size = 0
    · have HF : Hid (NumR (bl s) 0 false) := numr_minus hs0 hc45 (fun h => by cases h)
      have e1 : ((S.size : Int) == 0) = true := by rw [beq_iff_eq]; omega
      go_wp2
      all_goals go_ret2
      all_goals exact ⟨0, false, rfl, HF.out, Below.refl _ _⟩
    have hz1 : 0 < S.size := by omega
    have e1 : ((S.size : Int) == 0) = false := beq_eq_false_iff_ne.2 (by omega)
    have e1' : (0 : Int) < (S.size : Int) := by omega
    by_cases h18 : 18 < S.size
    · have HF : Hid (NumR (bl s) 0 false) := numr_minus hs0 hc45 (fun h => by cases h)
      have e2 : (18 : Int) < (S.size : Int) := by omega
      go_wp2
      all_goals go_ret2
      all_goals exact ⟨0, false, rfl, HF.out, Below.refl _ _⟩
    have e2 : ¬ (18 : Int) < (S.size : Int) := by omega
    by_cases h48 : (S[0]'hz1).toNat = 48
    · have HF : Hid (NumR (bl s) 0 false) := numr_minus hs0 hc45 (fun h => by cases h)
      have e3 : (((S[0]'hz1).toNat : Int) == 48) = true := by rw [beq_iff_eq]; omega
      by_cases hl1 : 1 < S.size
      · have e4 : (1 : Int) < (S.size : Int) := by omega
        go_wp2
        all_goals go_ret2
        all_goals exact ⟨0, false, rfl, HF.out, Below.refl _ _⟩
      · have e4 : ¬ (1 : Int) < (S.size : Int) := by omega
        go_wp2
        all_goals go_ret2
        all_goals exact ⟨0, false, rfl, HF.out, Below.refl _ _⟩
    have e3 : (((S[0]'hz1).toNat : Int) == 48) = false := beq_eq_false_iff_ne.2 (by omega)
    have H48 : Hid (¬ (S[0]'hz1).toNat = 48) := h48
    clear h48
    go_wp2
    go_loopw [5, 6] (fun s5 s6 wr => ∃ i : Nat, i ≤ S.size ∧ s6 = .int .i64 i ∧ s5 = .int .i64 (nv ((bl S).take i)) ∧ (∀ c ∈ (bl S).take i, dg c = true) ∧ wr = w) (fun _ s6 _ => S.size - (intOf s6).toNat)
    case atStart => exact ⟨0, by omega, rfl, by simp [nv], fun c hc => by simp at hc, rfl⟩
    case round =>
      obtain ⟨i, hi, rfl, rfl, hD0, rfl⟩ := hrel
      have hD : Hid (∀ c ∈ (bl S).take i, dg c = true) := hD0
      clear hD0
      obtain ⟨v, hv⟩ : ∃ v, v = nv ((bl S).take i) := ⟨_, rfl⟩
      have hv0 : 0 ≤ v := by rw [hv]; exact nv_nonneg hD.out
      have hvb : v ≤ 999999999999999999 := by rw [hv]; exact nv_small hD.out (by simp; omega)
      have HV : Hid (v = nv ((bl S).take i)) := hv
      rw [← hv]
      clear hv
      have kk : (0 : Int) ≤ (i : Int) := by omega
      by_cases hlt : i < S.size
      · have hlt' : (i : Int) < (S.size : Int) := by omega
        have hv17 : v ≤ 99999999999999999 := by have := HV.out; rw [this]; exact nv_small17 hD.out (by simp; omega)
        obtain ⟨c, hc⟩ : ∃ c : Nat, c = (S[i]'hlt).toNat := ⟨_, rfl⟩
        have hgi : ∀ h : i < S.size, ((S[i]'h).toNat : Int) = (c : Int) := fun h => by rw [hc]
        have hc256 : c < 256 := by rw [hc]; exact (S[i]'hlt).toNat_lt
        have HC : Hid (c = (S[i]'hlt).toNat) := hc
        clear hc
        by_cases hd : 48 ≤ c ∧ c ≤ 57
        · obtain ⟨d1, d2⟩ := hd
          have d1' : ¬ (c : Int) < 48 := by omega
          have d2' : ¬ 57 < (c : Int) := by omega
          have HD1 : Hid (∀ c ∈ (bl S).take (i + 1), dg c = true) := dig_next hlt hD.out (dg_iff.2 (by rw [← HC.out]; exact ⟨d1, d2⟩))
          have HV1 : Hid (v * 10 + (c : Int) - 48 = nv ((bl S).take (i + 1))) := by
            show _ = _
            rw [nv_next hlt, ← HV.out, ← HC.out]
            omega
          go_wp2
          go_roundw
          case rel => first | exact ⟨i + 1, by omega, by go_num, by rw [← HV1.out], HD1.out, rfl⟩ | exact ⟨i + 1, by omega, by go_num, by rw [← HV1.out], HD1.out, trivial⟩
          case measure => simp [intOf]; omega
        · have HF : Hid (NumR (bl s) 0 false) := numr_minus hs0 hc45 (fun h => by cases h)
          have hdd : (c : Int) < 48 ∨ (¬ (c : Int) < 48 ∧ 57 < (c : Int)) := by omega
          rcases hdd with d1 | ⟨d1, d2⟩
          all_goals
            go_wp2
            go_ret2
            exact ⟨0, false, rfl, HF.out, Below.refl _ _⟩
      · have hlt' : ¬ (i : Int) < (S.size : Int) := by omega
        have HA : Hid (v = nv (bl S) ∧ ∀ c ∈ bl S, dg c = true) := by
          have e : (bl S).take i = bl S := List.take_of_length_le (by rw [bl_len]; omega)
          have h1 := HV.out
          have h2 := hD.out
          rw [e] at h1 h2
          exact ⟨h1, h2⟩
        have HF : Hid (NumR (bl s) (-v) true) := numr_minus hs0 hc45 (fun _ => by have := first_pos hz1 H48.out HA.out.2; rw [← HA.out.1] at this; omega)
        go_wp2
        go_ret2
        exact ⟨_, _, rfl, by simpa using HF.out, Below.refl _ _⟩
  · have hx : (((s[0]'hs0).toNat : Int) == 45) = false := beq_eq_false_iff_ne.2 (by omega)
    go_enter Tryd.func29, Tryd.ntmps29
    go_upto_region 5 with fail
    obtain ⟨S, hS⟩ : ∃ S, S = s := ⟨_, rfl⟩
    subst hS
    clear hx hc45
    by_cases hz : S.size = 0
    · have HF : Hid (NumR (bl S) 0 false) := numr_no (fun h => h.1.1 (bl_nil hz))
      have e1 : ((S.size : Int) == 0) = true := by rw [beq_iff_eq]; omega
      go_wp2
      all_goals go_ret2
      all_goals exact ⟨0, false, rfl, HF.out, Below.refl _ _⟩
    have hz1 : 0 < S.size := by omega
    have e1 : ((S.size : Int) == 0) = false := beq_eq_false_iff_ne.2 (by omega)
    have e1' : (0 : Int) < (S.size : Int) := by omega
    by_cases h18 : 18 < S.size
    · have HF : Hid (NumR (bl S) 0 false) := numr_no (fun h => by have := h.2; rw [bl_len] at this; omega)
      have e2 : (18 : Int) < (S.size : Int) := by omega
      go_wp2
      all_goals go_ret2
      all_goals exact ⟨0, false, rfl, HF.out, Below.refl _ _⟩
    have e2 : ¬ (18 : Int) < (S.size : Int) := by omega
    by_cases h48 : (S[0]'hz1).toNat = 48 ∧ 1 < S.size
    · obtain ⟨h48, hl1⟩ := h48
      have HF : Hid (NumR (bl S) 0 false) := numr_no (fun h => lead_no hz1 h48 hl1 h.1)
      have e3 : (((S[0]'hz1).toNat : Int) == 48) = true := by rw [beq_iff_eq]; omega
      have e4 : (1 : Int) < (S.size : Int) := by omega
      go_wp2
      all_goals go_ret2
      all_goals exact ⟨0, false, rfl, HF.out, Below.refl _ _⟩
    have H48 : Hid (¬ ((S[0]'hz1).toNat = 48 ∧ 1 < S.size)) := h48
    have e34 : (((S[0]'hz1).toNat : Int) == 48) = false ∨ ((((S[0]'hz1).toNat : Int) == 48) = true ∧ ¬ (1 : Int) < (S.size : Int)) := by
      by_cases hh : (S[0]'hz1).toNat = 48
      · right; exact ⟨by rw [beq_iff_eq]; omega, by omega⟩
      · left; exact beq_eq_false_iff_ne.2 (by omega)
    clear h48
    rcases e34 with e3 | ⟨e3, e4⟩
    · go_wp2
      go_loopw [5, 6] (fun s5 s6 wr => ∃ i : Nat, i ≤ S.size ∧ s6 = .int .i64 i ∧ s5 = .int .i64 (nv ((bl S).take i)) ∧ (∀ c ∈ (bl S).take i, dg c = true) ∧ wr = w) (fun _ s6 _ => S.size - (intOf s6).toNat)
      case atStart => exact ⟨0, by omega, rfl, by simp [nv], fun c hc => by simp at hc, rfl⟩
      case round =>
        obtain ⟨i, hi, rfl, rfl, hD0, rfl⟩ := hrel
        have hD : Hid (∀ c ∈ (bl S).take i, dg c = true) := hD0
        clear hD0
        obtain ⟨v, hv⟩ : ∃ v, v = nv ((bl S).take i) := ⟨_, rfl⟩
        have hv0 : 0 ≤ v := by rw [hv]; exact nv_nonneg hD.out
        have hvb : v ≤ 999999999999999999 := by rw [hv]; exact nv_small hD.out (by simp; omega)
        have HV : Hid (v = nv ((bl S).take i)) := hv
        rw [← hv]
        clear hv
        have kk : (0 : Int) ≤ (i : Int) := by omega
        by_cases hlt : i < S.size
        · have hlt' : (i : Int) < (S.size : Int) := by omega
          have hv17 : v ≤ 99999999999999999 := by have := HV.out; rw [this]; exact nv_small17 hD.out (by simp; omega)
          obtain ⟨c, hc⟩ : ∃ c : Nat, c = (S[i]'hlt).toNat := ⟨_, rfl⟩
          have hgi : ∀ h : i < S.size, ((S[i]'h).toNat : Int) = (c : Int) := fun h => by rw [hc]
          have hc256 : c < 256 := by rw [hc]; exact (S[i]'hlt).toNat_lt
          have HC : Hid (c = (S[i]'hlt).toNat) := hc
          clear hc
          by_cases hd : 48 ≤ c ∧ c ≤ 57
          · obtain ⟨d1, d2⟩ := hd
            have d1' : ¬ (c : Int) < 48 := by omega
            have d2' : ¬ 57 < (c : Int) := by omega
            have HD1 : Hid (∀ c ∈ (bl S).take (i + 1), dg c = true) := dig_next hlt hD.out (dg_iff.2 (by rw [← HC.out]; exact ⟨d1, d2⟩))
            have HV1 : Hid (v * 10 + (c : Int) - 48 = nv ((bl S).take (i + 1))) := by
              show _ = _
              rw [nv_next hlt, ← HV.out, ← HC.out]
              omega
            go_wp2
            go_roundw
            case rel => first | exact ⟨i + 1, by omega, by go_num, by rw [← HV1.out], HD1.out, rfl⟩ | exact ⟨i + 1, by omega, by go_num, by rw [← HV1.out], HD1.out, trivial⟩
            case measure => simp [intOf]; omega
          · have HF : Hid (NumR (bl S) 0 false) := numr_no (fun h => hd (by rw [HC.out]; exact dg_iff.1 (h.1.2.1 _ (bl_mem hlt))))
            have hdd : (c : Int) < 48 ∨ (¬ (c : Int) < 48 ∧ 57 < (c : Int)) := by omega
            rcases hdd with d1 | ⟨d1, d2⟩
            all_goals
              go_wp2
              go_ret2
              exact ⟨0, false, rfl, HF.out, Below.refl _ _⟩
        · have hlt' : ¬ (i : Int) < (S.size : Int) := by omega
          have HA : Hid (v = nv (bl S) ∧ ∀ c ∈ bl S, dg c = true) := by
            have e : (bl S).take i = bl S := List.take_of_length_le (by rw [bl_len]; omega)
            have h1 := HV.out
            have h2 := hD.out
            rw [e] at h1 h2
            exact ⟨h1, h2⟩
          have HF : Hid (NumR (bl S) (v) true) := numr_yes hz1 (by omega) H48.out HA.out
          go_wp2
          go_ret2
          exact ⟨_, _, rfl, by simpa using HF.out, Below.refl _ _⟩
    · go_wp2
      go_loopw [5, 6] (fun s5 s6 wr => ∃ i : Nat, i ≤ S.size ∧ s6 = .int .i64 i ∧ s5 = .int .i64 (nv ((bl S).take i)) ∧ (∀ c ∈ (bl S).take i, dg c = true) ∧ wr = w) (fun _ s6 _ => S.size - (intOf s6).toNat)
      case atStart => exact ⟨0, by omega, rfl, by simp [nv], fun c hc => by simp at hc, rfl⟩
      case round =>
        obtain ⟨i, hi, rfl, rfl, hD0, rfl⟩ := hrel
        have hD : Hid (∀ c ∈ (bl S).take i, dg c = true) := hD0
        clear hD0
        obtain ⟨v, hv⟩ : ∃ v, v = nv ((bl S).take i) := ⟨_, rfl⟩
        have hv0 : 0 ≤ v := by rw [hv]; exact nv_nonneg hD.out
        have hvb : v ≤ 999999999999999999 := by rw [hv]; exact nv_small hD.out (by simp; omega)
        have HV : Hid (v = nv ((bl S).take i)) := hv
        rw [← hv]
        clear hv
        have kk : (0 : Int) ≤ (i : Int) := by omega
        by_cases hlt : i < S.size
        · have hlt' : (i : Int) < (S.size : Int) := by omega
          have hv17 : v ≤ 99999999999999999 := by have := HV.out; rw [this]; exact nv_small17 hD.out (by simp; omega)
          obtain ⟨c, hc⟩ : ∃ c : Nat, c = (S[i]'hlt).toNat := ⟨_, rfl⟩
          have hgi : ∀ h : i < S.size, ((S[i]'h).toNat : Int) = (c : Int) := fun h => by rw [hc]
          have hc256 : c < 256 := by rw [hc]; exact (S[i]'hlt).toNat_lt
          have HC : Hid (c = (S[i]'hlt).toNat) := hc
          clear hc
          by_cases hd : 48 ≤ c ∧ c ≤ 57
          · obtain ⟨d1, d2⟩ := hd
            have d1' : ¬ (c : Int) < 48 := by omega
            have d2' : ¬ 57 < (c : Int) := by omega
            have HD1 : Hid (∀ c ∈ (bl S).take (i + 1), dg c = true) := dig_next hlt hD.out (dg_iff.2 (by rw [← HC.out]; exact ⟨d1, d2⟩))
            have HV1 : Hid (v * 10 + (c : Int) - 48 = nv ((bl S).take (i + 1))) := by
              show _ = _
              rw [nv_next hlt, ← HV.out, ← HC.out]
              omega
            go_wp2
            go_roundw
            case rel => first | exact ⟨i + 1, by omega, by go_num, by rw [← HV1.out], HD1.out, rfl⟩ | exact ⟨i + 1, by omega, by go_num, by rw [← HV1.out], HD1.out, trivial⟩
            case measure => simp [intOf]; omega
          · have HF : Hid (NumR (bl S) 0 false) := numr_no (fun h => hd (by rw [HC.out]; exact dg_iff.1 (h.1.2.1 _ (bl_mem hlt))))
            have hdd : (c : Int) < 48 ∨ (¬ (c : Int) < 48 ∧ 57 < (c : Int)) := by omega
            rcases hdd with d1 | ⟨d1, d2⟩
            all_goals
              go_wp2
              go_ret2
              exact ⟨0, false, rfl, HF.out, Below.refl _ _⟩
        · have hlt' : ¬ (i : Int) < (S.size : Int) := by omega
          have HA : Hid (v = nv (bl S) ∧ ∀ c ∈ bl S, dg c = true) := by
            have e : (bl S).take i = bl S := List.take_of_length_le (by rw [bl_len]; omega)
            have h1 := HV.out
            have h2 := hD.out
            rw [e] at h1 h2
            exact ⟨h1, h2⟩
          have HF : Hid (NumR (bl S) (v) true) := numr_yes hz1 (by omega) H48.out HA.out
          go_wp2
          go_ret2
          exact ⟨_, _, rfl, by simpa using HF.out, Below.refl _ _⟩
end Go.Proofs.YtdepclilngaacaaDoor

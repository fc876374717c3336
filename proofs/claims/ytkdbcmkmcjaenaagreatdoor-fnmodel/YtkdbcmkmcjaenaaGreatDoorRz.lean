/- Rising lists of texts; texts in memory. -/
import Derived.Test.YtkdbcmkmcjaenaaGreatDoorRows
import Derived.WalkKit
import Derived.WalkSpells
import Derived.WalkLawsBesides
import Derived.Deep.QuietTactic
import Derived.BigQuiet
import Derived.Deep.RegionHeld3
import Derived.Test.YtkdbcmkmcjaenaaGreatDoorPo
import Derived.LoopN
import Derived.OwnWalk
import Derived.Sort.KeysCollected
import Derived.Sort.OwnSorted
import Derived.Lib.SlicesCompact
import Derived.Lib.RowBridge
namespace Go.Proofs.YtkdbcmkmcjaenaaGreatDoor
open Go.RowKit
set_option linter.unusedSimpArgs false
set_option linter.unusedVariables false

open Go.Sort
theorem lt_of_le_ne {a b : List UInt8} (h1 : a ≤ b) (h2 : a ≠ b) : a < b := Classical.byContradiction fun h => h2 (List.le_antisymm h1 (List.not_lt.1 h))
theorem rise_nodup {a : List (List UInt8)} (ha : a.Pairwise (fun x y => x < y)) : a.Nodup := ha.imp (fun {x y} h e => by subst e; exact List.lt_irrefl x h)
theorem rise_one {a b : List (List UInt8)} (ha : a.Pairwise (fun x y => x < y)) (hb : b.Pairwise (fun x y => x < y)) (h : ∀ x, x ∈ a ↔ x ∈ b) : a = b := by
  have hp : a.Perm b := (List.perm_ext_iff_of_nodup (rise_nodup ha) (rise_nodup hb)).2 h
  have e := mergeSort_of_perm hp
  have g : ∀ {l : List (List UInt8)}, l.Pairwise (fun x y => x < y) → l.mergeSort leB = l := fun {l} hl => List.mergeSort_of_pairwise (hl.imp (fun {x y} h => decide_eq_true (List.le_of_lt h)))
  rw [g ha, g hb] at e
  exact e
theorem sorted_le (ks : List (List UInt8)) : (ks.mergeSort fun x y => decide (x ≤ y)).Pairwise (fun x y => x ≤ y) := by
  have := List.pairwise_mergeSort (le := fun x y : List UInt8 => decide (x ≤ y)) (fun a b c h1 h2 => decide_eq_true (List.le_trans (of_decide_eq_true h1) (of_decide_eq_true h2))) (fun a b => by
    rcases List.le_total a b with h | h
    · simp [h]
    · simp [h]) ks
  exact this.imp (fun {x y} h => of_decide_eq_true h)
theorem compact_upto {zs : List (List UInt8)} (h : zs.Pairwise (fun x y => x ≤ y)) : ∀ m, m ≤ zs.length →
    (Lib.compactUpTo zs.toArray m).Pairwise (fun x y => x < y) ∧ (∀ x ∈ Lib.compactUpTo zs.toArray m, x ∈ zs.take m) ∧ (∀ x ∈ zs.take m, x ∈ Lib.compactUpTo zs.toArray m) := by
  intro m
  induction m with
  | zero => intro _; exact ⟨.nil, fun x hx => by simp [Lib.compactUpTo] at hx, fun x hx => by simp at hx⟩
  | succ m ih =>
    intro hm
    have hml : m < zs.length := by omega
    obtain ⟨i1, i2, i3⟩ := ih (by omega)
    have ed : (zs.toArray)[m]! = zs[m] := by simp [getElem!_pos, hml]
    have hle : ∀ x ∈ zs.take m, x ≤ zs[m] := fun x hx => by
      obtain ⟨j, hj, rfl⟩ := List.getElem_of_mem hx
      have hj2 : j < m := by simp at hj; omega
      have := List.pairwise_iff_getElem.1 h j m (by omega) hml hj2
      simpa using this
    rw [Lib.compactUpTo_succ, List.take_succ_eq_append_getElem hml, ed]
    cases hk : Lib.keeps zs.toArray m
    · have hm0 : m ≠ 0 := fun e => by subst e; rw [Lib.keeps_lt_one _ 0 (by omega)] at hk; cases hk
      have he : (zs.toArray)[m]! = (zs.toArray)[m - 1]! := Classical.byContradiction fun hne => by rw [Lib.keeps_pos hne] at hk; cases hk
      have h1 : m - 1 < zs.length := by omega
      have ee : zs[m] = zs[m - 1] := by rw [← ed, he]; simp [getElem!_pos, h1]
      simp only [Bool.false_eq_true, if_false, List.append_nil]
      refine ⟨i1, fun x hx => List.mem_append.2 (.inl (i2 x hx)), fun x hx => ?_⟩
      rcases List.mem_append.1 hx with hx | hx
      · exact i3 x hx
      · rw [List.mem_singleton] at hx
        rw [hx, ee]
        refine i3 _ ?_
        rw [List.mem_take_iff_getElem]
        exact ⟨m - 1, by omega, rfl⟩
    · simp only [if_true]
      refine ⟨List.pairwise_append.2 ⟨i1, by simp, fun x hx y hy => ?_⟩, fun x hx => ?_, fun x hx => ?_⟩
      · rw [List.mem_singleton] at hy
        subst hy
        refine lt_of_le_ne (hle x (i2 x hx)) (fun e => ?_)
        rcases Nat.eq_zero_or_pos m with hz | hz
        · have hx2 := i2 x hx
          rw [hz] at hx2
          simp at hx2
        · have hx2 := i2 x hx
          have h1 : m - 1 < zs.length := by omega
          have e1 : (zs.toArray)[m - 1]! = zs[m - 1] := by simp [getElem!_pos, h1]
          have hne : zs[m] ≠ zs[m - 1] := fun e2 => by rw [Lib.keeps_neg hz (by rw [ed, e1]; exact e2)] at hk; cases hk
          obtain ⟨j, hj, hje⟩ := List.getElem_of_mem hx2
          have hj2 : j < m := by simp at hj; omega
          have hje' : zs[j] = x := by simpa using hje
          have h2 : x ≤ zs[m - 1] := by
            rcases Nat.lt_or_ge j (m - 1) with h3 | h3
            · have := List.pairwise_iff_getElem.1 h j (m - 1) (by omega) h1 h3
              rw [hje'] at this
              exact this
            · have : j = m - 1 := by omega
              subst this
              rw [hje']
              exact List.le_refl x
          have h4 : zs[m - 1] ≤ zs[m] := List.pairwise_iff_getElem.1 h (m - 1) m h1 hml (by omega)
          exact hne (List.le_antisymm (by rw [← e]; exact h2) h4)
      · rcases List.mem_append.1 hx with hx | hx
        · exact List.mem_append.2 (.inl (i2 x hx))
        · exact List.mem_append.2 (.inr hx)
      · rcases List.mem_append.1 hx with hx | hx
        · exact List.mem_append.2 (.inl (i3 x hx))
        · exact List.mem_append.2 (.inr hx)
/-- Texts, rising, none twice. -/
def risen (ks : List (List UInt8)) : List (List UInt8) := Lib.compact (ks.mergeSort fun x y => decide (x ≤ y))
theorem risen_rise (ks : List (List UInt8)) : (risen ks).Pairwise (fun x y => x < y) ∧ ∀ x, x ∈ risen ks ↔ x ∈ ks := by
  obtain ⟨h1, h2, h3⟩ := compact_upto (sorted_le ks) _ (Nat.le_refl _)
  refine ⟨h1, fun x => ?_⟩
  rw [List.take_of_length_le (Nat.le_refl _)] at h2 h3
  have hp : (ks.mergeSort fun x y => decide (x ≤ y)).Perm ks := List.mergeSort_perm ks _
  exact ⟨fun hx => hp.mem_iff.1 (h2 x hx), fun hx => h3 x (hp.mem_iff.2 hx)⟩
theorem risen_is {ks rs : List (List UInt8)} (hr : rs.Pairwise (fun x y => x < y)) (hm : ∀ x, x ∈ rs ↔ x ∈ ks) : rs = risen ks :=
  rise_one hr (risen_rise ks).1 (fun x => (hm x).trans ((risen_rise ks).2 x).symm)
theorem risen_len (ks : List (List UInt8)) : (risen ks).length ≤ ks.length := by
  unfold risen
  refine Nat.le_trans (Lib.compact_length_le _) ?_
  rw [List.length_mergeSort]
  exact Nat.le_refl _
/-- The keys of events. -/
def keysE (l : List Ev) : List (List UInt8) := l.map (fun e => kb e.key)
/-- Texts, as they lie in memory. -/
def txt (rs : List (List UInt8)) : List Value := rs.map encStr
theorem txt_len (rs : List (List UInt8)) : (txt rs).length = rs.length := by simp [txt]
theorem txt_one (rs : List (List UInt8)) : ∀ u ∈ txt rs, u.oneCell' = true := by
  intro u hu
  simp only [txt, List.mem_map] at hu
  obtain ⟨v, _, rfl⟩ := hu
  rfl
theorem enc_kb (s : ByteArray) : encStr (kb s) = .string s := by
  unfold encStr kb
  simp
theorem elS : ElemT Tryz.prog 25 9 1 16 := by
  refine ⟨Tryz.underlying25, ?_, by decide, by decide⟩
  have hI : (Tryz.prog.info? 9).map (fun i => (i.zero, i.size, i.bytes)) = some (some (.string ⟨#[]⟩), 1, 16) := by kernel_rfl
  obtain ⟨i0, hi, hz0, hz1, hz2⟩ := info_parts hI
  exact ⟨i0, _, hi, hz0, hz1, hz2, rfl⟩
/-- The answer of ModelKeys. -/
def mkP (l : List Ev) (rs : List (List UInt8)) (c : Int) : Prop :=
  (4096 < l.length ∧ rs = [] ∧ c = 2) ∨ (l.length ≤ 4096 ∧ ¬ eok l ∧ rs = [] ∧ c = 1) ∨ (l.length ≤ 4096 ∧ eok l ∧ rs = risen (keysE l) ∧ c = 0)
theorem mkP_one {l : List Ev} {rs rs' : List (List UInt8)} {c c' : Int} (h : mkP l rs c) (h' : mkP l rs' c') : rs = rs' ∧ c = c' := by
  rcases h with ⟨h1, rfl, rfl⟩ | ⟨h1, h2, rfl, rfl⟩ | ⟨h1, h2, rfl, rfl⟩ <;> rcases h' with ⟨k1, rfl, rfl⟩ | ⟨k1, k2, rfl, rfl⟩ | ⟨k1, k2, rfl, rfl⟩
  all_goals first
    | exact ⟨rfl, rfl⟩
    | omega
    | exact (h2 k2).elim
    | exact (k2 h2).elim
end Go.Proofs.YtkdbcmkmcjaenaaGreatDoor

/- Words of a text: as the specification goes, byte by byte, and as the library goes, rune by rune (mathematics alone). -/
import Derived.Test.YtdepclilngaacaaDoorRows
import Derived.WalkKit
import Derived.WalkSpells
import Derived.WalkLawsBesides
import Derived.Deep.QuietTactic
import Derived.BigQuiet
import Derived.Deep.RegionHeld3
import Derived.Test.YtdepclilngaacaaDoorGk
import Derived.Lib.FieldsP
import Derived.Lib.DecodeN
import Derived.LoopN
namespace Go.Proofs.YtdepclilngaacaaDoor
open Go.RowKit
set_option linter.unusedSimpArgs false
set_option linter.unusedVariables false

/-- The words' places, byte by byte. -/
def spW (s : ByteArray) : Nat → Nat → Nat → List (Nat × Nat) → List (Nat × Nat)
  | 0, _, _, acc => acc
  | f + 1, i, fr, acc => if i = s.size ∨ (s.get! i).toNat = 32 then spW s f (i + 1) (i + 1) (if fr < i then acc ++ [(fr, i)] else acc) else spW s f (i + 1) fr acc
def blankR (x : Nat) : Bool := decide (x = 32)
theorem decN_space (n b0 b1 b2 b3 : Nat) (h : b0 = 32) : Lib.decodeN n b0 b1 b2 b3 = (32, 1) := by subst h; simp [Lib.decodeN]
theorem decN_other (n b0 b1 b2 b3 : Nat) (hn : 1 ≤ n) (h : b0 ≠ 32) : (Lib.decodeN n b0 b1 b2 b3).1 ≠ 32 ∧ 1 ≤ (Lib.decodeN n b0 b1 b2 b3).2 ∧ (Lib.decodeN n b0 b1 b2 b3).2 ≤ n ∧ (1 < (Lib.decodeN n b0 b1 b2 b3).2 → b1 ≠ 32) ∧ (2 < (Lib.decodeN n b0 b1 b2 b3).2 → b2 ≠ 32) ∧ (3 < (Lib.decodeN n b0 b1 b2 b3).2 → b3 ≠ 32) ∧ (Lib.decodeN n b0 b1 b2 b3).2 ≤ 4 := by
  unfold Lib.decodeN
  repeat' split
  all_goals (refine ⟨?_, ?_, ?_, ?_, ?_, ?_, ?_⟩ <;> simp only [] <;> omega)
theorem spW_skip (s : ByteArray) : ∀ (k f i fr : Nat) (acc : List (Nat × Nat)), (∀ j, j < k → i + j < s.size ∧ (s.get! (i + j)).toNat ≠ 32) → spW s (k + f) i fr acc = spW s f (i + k) fr acc
  | 0, f, i, fr, acc, _ => by simp
  | k + 1, f, i, fr, acc, h => by
    have h0 := h 0 (by omega)
    rw [Nat.add_zero] at h0
    rw [show k + 1 + f = (k + f) + 1 by omega, spW, if_neg (by intro h'; rcases h' with h' | h'; omega; exact h0.2 h'), spW_skip s k f (i + 1) fr acc (fun j hj => by have := h (j + 1) (by omega); rw [show i + (j + 1) = i + 1 + j by omega] at this; exact this)]
    rw [show i + 1 + k = i + (k + 1) by omega]
theorem spans_spW (s : ByteArray) : ∀ (f pos : Nat) (st : Option Nat) (acc : List (Nat × Nat)), s.size ≤ pos + f → pos ≤ s.size → (∀ a, st = some a → a < pos) →
    Lib.closeSpans s (Lib.spansFromP blankR s f pos st acc) = spW s (s.size + 1 - pos) pos (st.getD pos) acc := by
  intro f
  induction f with
  | zero =>
    intro pos st acc h1 h2 h3
    have e : pos = s.size := by omega
    subst e
    rw [Lib.spansFromP_end _ _ _ _ _ _ (by omega), show s.size + 1 - s.size = 0 + 1 by omega, spW, if_pos (.inl rfl), spW]
    cases st with
    | none => simp [Lib.closeSpans]
    | some a => have := h3 a rfl; simp [Lib.closeSpans, this]
  | succ f ih =>
    intro pos st acc h1 h2 h3
    by_cases hlt : pos < s.size
    · unfold Lib.spansFromP
      rw [if_pos hlt]
      have hd := Lib.decode_at s pos
      by_cases hb : (s.get! pos).toNat = 32
      · have e : Utf8.decode s pos = (32, 1) := by rw [hd]; exact decN_space _ _ _ _ _ hb
        have hp : blankR ((32, 1) : Nat × Nat).1 = true := rfl
        have hS : ∀ fr, spW s (s.size + 1 - pos) pos fr acc = spW s (s.size + 1 - (pos + 1)) (pos + 1) (pos + 1) (if fr < pos then acc ++ [(fr, pos)] else acc) := fun fr => by
          rw [show s.size + 1 - pos = (s.size + 1 - (pos + 1)) + 1 by omega, spW, if_pos (.inr hb)]
        rw [e, if_pos hp, hS]
        cases st with
        | none =>
          simp only [Option.getD_none, Nat.lt_irrefl, if_false]
          rw [ih (pos + 1) none acc (by omega) (by omega) (fun a h => by cases h)]
          simp
        | some a =>
          have ha := h3 a rfl
          simp only [Option.getD_some, ha, if_true]
          rw [ih (pos + 1) none (acc ++ [(a, pos)]) (by omega) (by omega) (fun a h => by cases h)]
          simp
      · have ho := decN_other (s.size - pos) (s.get! pos).toNat (s.get! (pos + 1)).toNat (s.get! (pos + 2)).toNat (s.get! (pos + 3)).toNat (by omega) hb
        rw [← hd] at ho
        obtain ⟨R, hR⟩ : ∃ R, (Utf8.decode s pos).1 = R := ⟨_, rfl⟩
        obtain ⟨K, hK⟩ : ∃ K, (Utf8.decode s pos).2 = K := ⟨_, rfl⟩
        rw [hR, hK] at ho
        rw [hR, hK]
        obtain ⟨o1, o2, o3, o4, o5, o6, o7⟩ := ho
        have hp : blankR R = false := by simp [blankR, o1]
        have hsk : ∀ fr, spW s (s.size + 1 - pos) pos fr acc = spW s (s.size + 1 - (pos + K)) (pos + K) fr acc := fun fr => by
          have := spW_skip s K (s.size + 1 - (pos + K)) pos fr acc (fun j hj => ⟨by omega, by
            match j, hj with
            | 0, _ => exact hb
            | 1, hj => exact o4 hj
            | 2, hj => exact o5 hj
            | 3, hj => exact o6 hj
            | j + 4, hj => omega⟩)
          rw [show s.size + 1 - pos = K + (s.size + 1 - (pos + K)) by omega]
          exact this
        cases st with
        | none =>
          simp only [hp, Bool.false_eq_true, if_false, Option.getD_none]
          rw [ih (pos + K) (some pos) acc (by omega) (by omega) (fun a h => by cases h; omega), hsk]
          rfl
        | some a =>
          have ha := h3 a rfl
          simp only [hp, Bool.false_eq_true, if_false, Option.getD_some]
          rw [ih (pos + K) (some a) acc (by omega) (by omega) (fun b h => by cases h; omega), hsk]
          rfl
    · have e : pos = s.size := by omega
      subst e
      rw [Lib.spansFromP_end _ _ _ _ _ _ (by omega), show s.size + 1 - s.size = 0 + 1 by omega, spW, if_pos (.inl rfl), spW]
      cases st with
      | none => simp [Lib.closeSpans]
      | some a => have := h3 a rfl; simp [Lib.closeSpans, this]
/-- A text's words. -/
def wordsB (s : ByteArray) : List ByteArray := (spW s (s.size + 1) 0 0 []).map fun x => s.extract x.1 x.2
theorem fields_words (s : ByteArray) : Lib.goFieldsP blankR s = wordsB s := by
  unfold Lib.goFieldsP Lib.spansOfP wordsB
  rw [spans_spW s s.size 0 none [] (by omega) (by omega) (fun a h => by cases h)]
  rfl
theorem spW_inv (s : ByteArray) : ∀ (f i fr : Nat) (acc : List (Nat × Nat)), i + f = s.size + 1 → fr ≤ i → (∀ x ∈ acc, x.1 < x.2 ∧ x.2 ≤ s.size) → acc.length ≤ i → (∀ x ∈ spW s f i fr acc, x.1 < x.2 ∧ x.2 ≤ s.size) ∧ (spW s f i fr acc).length ≤ s.size + 1
  | 0, i, fr, acc, h, _, ha, hl => ⟨ha, by rw [spW]; omega⟩
  | f + 1, i, fr, acc, h, hf, ha, hl => by
    rw [spW]
    by_cases hc : i = s.size ∨ (s.get! i).toNat = 32
    · rw [if_pos hc]
      by_cases hlt : fr < i
      · rw [if_pos hlt]
        refine spW_inv s f (i + 1) (i + 1) _ (by omega) (by omega) (fun x hx => ?_) (by simp; omega)
        rcases List.mem_append.1 hx with hx | hx
        · exact ha x hx
        · simp at hx; subst hx; exact ⟨hlt, by simp; omega⟩
      · rw [if_neg hlt]
        exact spW_inv s f (i + 1) (i + 1) _ (by omega) (by omega) ha (by omega)
    · rw [if_neg hc]
      exact spW_inv s f (i + 1) fr _ (by omega) (by omega) ha (by omega)
theorem words_ne (s : ByteArray) : ∀ x ∈ wordsB s, 0 < x.size ∧ x.size ≤ s.size := fun x hx => by
  obtain ⟨y, hy, rfl⟩ := List.mem_map.1 hx
  have := (spW_inv s (s.size + 1) 0 0 [] (by omega) (by omega) (fun x h => by cases h) (by simp)).1 y hy
  rw [ByteArray.size_extract]
  omega
theorem words_len (s : ByteArray) : (wordsB s).length ≤ s.size + 1 := by
  unfold wordsB
  rw [List.length_map]
  exact (spW_inv s (s.size + 1) 0 0 [] (by omega) (by omega) (fun x h => by cases h) (by simp)).2
end Go.Proofs.YtdepclilngaacaaDoor

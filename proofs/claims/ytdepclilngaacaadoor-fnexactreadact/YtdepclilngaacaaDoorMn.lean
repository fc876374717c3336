/- What the specification makes of an act's words (mathematics alone). -/
import Derived.Test.YtdepclilngaacaaDoorRows
import Derived.WalkKit
import Derived.WalkSpells
import Derived.WalkLawsBesides
import Derived.Deep.QuietTactic
import Derived.BigQuiet
import Derived.Deep.RegionHeld3
import Derived.Test.YtdepclilngaacaaDoorMt
import Derived.LoopN
namespace Go.Proofs.YtdepclilngaacaaDoor
open Go.RowKit
set_option linter.unusedSimpArgs false
set_option linter.unusedVariables false

def nOK18 (s : ByteArray) : Prop := Num (bl s) ∧ (bl s).length ≤ 18
theorem nok18 {s : ByteArray} (h : nOK s) : nOK18 s := ⟨h.1, by
  rcases Nat.lt_or_ge (bl s).length 6 with q | q
  · omega
  · have := num_big h.1 q; have := h.2; omega⟩
theorem nok_of {s : ByteArray} (h : nOK18 s) (hb : nv (bl s) ≤ 999) : nOK s := ⟨h.1, hb⟩
def keyed (k : Nat) : Bool := decide (k ≤ 2 ∨ k = 8)
def wantN (k : Nat) : Nat := [0, 2, 1, 1, 1, 1, 1, 1, 4, 2, 1, 2, 1, 2, 1].getD k 0
/-- The words that are numbers. -/
def nk (kd : Bool) (T : List ByteArray) : List ByteArray := if kd then T.eraseIdx 1 else T
def keyAt (kd : Bool) (T : List ByteArray) : ByteArray := if kd then T.getD 1 ⟨#[]⟩ else ⟨#[]⟩
theorem take_more {T : List ByteArray} {i : Nat} {x : ByteArray} (hx : T[i]? = some x) : T.take (i + 1) = T.take i ++ [x] ∧ (T.take i).length = i := by
  have hi : i < T.length := (List.getElem?_eq_some_iff.1 hx).1
  refine ⟨by rw [List.take_add_one, hx]; rfl, by rw [List.length_take]; omega⟩
theorem nk_key {T : List ByteArray} {x : ByteArray} (hx : T[1]? = some x) : nk true (T.take (1 + 1)) = nk true (T.take 1) ∧ keyAt true (T.take (1 + 1)) = x := by
  obtain ⟨h1, h2⟩ := take_more hx
  match T, hx with
  | a :: b :: t, hx => simp at hx; subst hx; simp [nk, keyAt]
theorem nk_num {kd : Bool} {T : List ByteArray} {i : Nat} {x : ByteArray} (hx : T[i]? = some x) (h : ¬ (i = 1 ∧ kd = true)) : nk kd (T.take (i + 1)) = nk kd (T.take i) ++ [x] ∧ keyAt kd (T.take (i + 1)) = keyAt kd (T.take i) := by
  obtain ⟨h1, h2⟩ := take_more hx
  cases kd with
  | false => exact ⟨by simp [nk, h1], rfl⟩
  | true =>
    have hi : i ≠ 1 := fun e => h ⟨e, rfl⟩
    rw [h1]
    rcases Nat.eq_zero_or_pos i with e | e
    · subst e
      simp [nk, keyAt]
    · refine ⟨?_, ?_⟩
      · simp only [nk, if_true]
        rw [List.eraseIdx_append_of_lt_length (by omega)]
      · simp only [keyAt, if_true]
        rw [List.getD_eq_getElem?_getD, List.getD_eq_getElem?_getD, List.getElem?_append_left (by omega)]
def asmA (k : Nat) (bb : Bool) (vs : List Int) (key : ByteArray) : Av :=
  if 3 ≤ k ∧ k ≤ 5 then ⟨k, 0, vs.getD 0 0, key, 0, 0, bb⟩ else if k = 1 then ⟨k, vs.getD 0 0, 0, key, vs.getD 1 0, 0, bb⟩ else if k = 8 then ⟨k, vs.getD 0 0, vs.getD 3 0, key, vs.getD 1 0, vs.getD 2 0, bb⟩ else if wantN k = 2 then ⟨k, vs.getD 0 0, vs.getD 1 0, key, 0, 0, bb⟩ else ⟨k, vs.getD 0 0, 0, key, 0, 0, bb⟩
def nvs (l : List ByteArray) : List Int := l.map fun x => nv (bl x)
theorem key_ne {s : ByteArray} (h : keyP s) : s.toList ≠ [] := fun e => by
  have h1 := h.1
  rw [ByteArray.toList_eq] at e
  have := bl_len s
  unfold bl at this
  rw [e] at this
  simp at this
  omega
theorem kinds {k : Nat} (h1 : 1 ≤ k) (h2 : k < 15) : k = 1 ∨ k = 2 ∨ k = 3 ∨ k = 4 ∨ k = 5 ∨ k = 6 ∨ k = 7 ∨ k = 8 ∨ k = 9 ∨ k = 10 ∨ k = 11 ∨ k = 12 ∨ k = 13 ∨ k = 14 := by omega
theorem nk_good {k : Nat} {T : List ByteArray} (h1 : 1 ≤ k) (h2 : k < 15) (h : goodW k T) : (∀ x ∈ nk (keyed k) T, nOK18 x) ∧ (nk (keyed k) T).length = wantN k ∧ (keyed k = true → (keyAt (keyed k) T).toList ≠ []) := by
  obtain ⟨hl, hp⟩ := h
  rcases kinds h1 h2 with rfl | rfl | rfl | rfl | rfl | rfl | rfl | rfl | rfl | rfl | rfl | rfl | rfl | rfl
  all_goals (rcases T with _ | ⟨x, _ | ⟨y, _ | ⟨z, _ | ⟨u, _ | ⟨v, _ | ⟨w, T⟩⟩⟩⟩⟩⟩ <;> simp [fs] at hl)
  all_goals simp [fs, rdP] at hp
  all_goals simp [nk, keyed, wantN, keyAt]
  all_goals first
    | exact nok18 hp
    | exact ⟨nok18 hp.1, key_ne hp.2⟩
    | exact ⟨nok18 hp.1, nok18 hp.2⟩
    | exact ⟨⟨nok18 hp.1, nok18 hp.2.2⟩, key_ne hp.2.1⟩
    | exact ⟨⟨nok18 hp.1, nok18 hp.2.2.1, nok18 hp.2.2.2.1, nok18 hp.2.2.2.2⟩, key_ne hp.2.1⟩
theorem nk_fin {k : Nat} {T : List ByteArray} {bb : Bool} (h1 : 1 ≤ k) (h2 : k < 15) (h : (∀ x ∈ nk (keyed k) T, nOK18 x) ∧ (nk (keyed k) T).length = wantN k ∧ (keyed k = true → (keyAt (keyed k) T).toList ≠ [])) :
    ((asmA k bb (nvs (nk (keyed k) T)) (keyAt (keyed k) T)).ok ↔ goodW k T ∧ (actOf k bb T).ok) ∧ (goodW k T → asmA k bb (nvs (nk (keyed k) T)) (keyAt (keyed k) T) = actOf k bb T) := by
  obtain ⟨hn, hl, hk⟩ := h
  rcases kinds h1 h2 with rfl | rfl | rfl | rfl | rfl | rfl | rfl | rfl | rfl | rfl | rfl | rfl | rfl | rfl
  all_goals (rcases T with _ | ⟨x, _ | ⟨y, _ | ⟨z, _ | ⟨u, _ | ⟨v, _ | ⟨w, T⟩⟩⟩⟩⟩⟩ <;> simp [nk, keyed, wantN, keyAt] at hn hl hk)
  all_goals simp [nk, keyed, wantN, keyAt, asmA, nvs, actOf, foldA, rdA, fs]
  all_goals (intro hok; refine ⟨rfl, fun x hx => ?_⟩; simp [fs] at hx)
  all_goals (obtain ⟨-, i1, i2, i3, i4, i5⟩ := hok; simp only [Inn] at i1 i2 i3 i4 i5)
  all_goals (repeat' (rcases hx with hx | hx))
  all_goals simp only [rdP]
  all_goals first
    | (rw [if_pos trivial]; exact i3.resolve_left hk)
    | rw [if_neg (by decide)]
  all_goals first
    | exact nok_of hn (by omega)
    | exact nok_of hn.1 (by omega)
    | exact nok_of hn.2 (by omega)
    | exact nok_of hn.2.1 (by omega)
    | exact nok_of hn.2.2.1 (by omega)
    | exact nok_of hn.2.2.2 (by omega)
end Go.Proofs.YtdepclilngaacaaDoor

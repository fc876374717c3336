/- Events written one by one: mathematics. -/
import Derived.Test.YtkdbcmkmcjaenaaGreatDoorRows
import Derived.WalkKit
import Derived.WalkSpells
import Derived.WalkLawsBesides
import Derived.Deep.QuietTactic
import Derived.BigQuiet
import Derived.Deep.RegionHeld3
import Derived.Test.YtkdbcmkmcjaenaaGreatDoorLm
import Derived.Test.YtkdbcmkmcjaenaaGreatDoorOc
namespace Go.Proofs.YtkdbcmkmcjaenaaGreatDoor
open Go.RowKit
set_option linter.unusedSimpArgs false
set_option linter.unusedVariables false

/-- The object that the first i events of the list make, one after the other, of a key. -/
def WI (l : List Ev) (i : Nat) (key : ByteArray) (J : List Sb) (p q r : Int) : Prop :=
  (J.Pairwise sl ∧ ∀ s, s ∈ J ↔ ∃ e ∈ l.take i, e.key = key ∧ (¬ ∃ f ∈ l.take i, f.key = key ∧ knowE f e.p e.n) ∧ s = sOf e) ∧ supP (l.take i) key 0 p ∧ supP (l.take i) key 1 q ∧ supP (l.take i) key 2 r
theorem wi_start (l : List Ev) (key : ByteArray) : WI l 0 key [] 0 0 0 :=
  ⟨⟨List.Pairwise.nil, fun s => by simp⟩, ⟨Int.le_refl _, fun e he => by simp at he, .inl rfl⟩, ⟨Int.le_refl _, fun e he => by simp at he, .inl rfl⟩, ⟨Int.le_refl _, fun e he => by simp at he, .inl rfl⟩⟩
theorem wi_skip {l : List Ev} {i : Nat} {key : ByteArray} {J : List Sb} {p q r : Int} (h : WI l i key J p q r) (hi : i < l.length) (hk : l[i].key ≠ key) : WI l (i + 1) key J p q r := by
  refine ⟨⟨h.1.1, fun s => ?_⟩, supP_skip h.2.1 hi hk, supP_skip h.2.2.1 hi hk, supP_skip h.2.2.2 hi hk⟩
  rw [h.1.2, List.take_succ_eq_append_getElem hi]
  constructor
  · rintro ⟨e, he, hek, hno, r⟩
    refine ⟨e, List.mem_append.2 (.inl he), hek, fun ⟨f, hf, hfk, hfe⟩ => ?_, r⟩
    rcases List.mem_append.1 hf with hf | hf
    · exact hno ⟨f, hf, hfk, hfe⟩
    · rw [List.mem_singleton.1 hf] at hfk; exact hk hfk
  · rintro ⟨e, he, hek, hno, r⟩
    rcases List.mem_append.1 he with he | he
    · exact ⟨e, he, hek, fun ⟨f, hf, k1, k2⟩ => hno ⟨f, List.mem_append.2 (.inl hf), k1, k2⟩, r⟩
    · rw [List.mem_singleton.1 he] at hek; exact absurd hek hk
/-- An event knows less than itself. -/
theorem own_lt {l : List Ev} {i : Nat} (he : eok l) (hi : i < l.length) : comp l[i].a l[i].b l[i].c l[i].p < l[i].n := by
  obtain ⟨X, Y, Z, _, i2, i3⟩ := eokL_at he.2 i hi
  have d := ev_dot (eok_ev he _ (List.getElem_mem hi))
  have s1 := i3.1
  have s2 := i3.2
  have c3' : l[i].p = 0 ∨ l[i].p = 1 ∨ l[i].p = 2 := by omega
  rcases c3' with e | e | e <;> rw [e] at s1 ⊢ <;> simp [comp] at s1 ⊢ <;> omega
/-- None that is not later knows it. -/
theorem not_known {l : List Ev} {i j : Nat} (he : eok l) (hi : i < l.length) (hj : j ≤ i) : ¬ knowE (l[j]'(by omega)) l[i].p l[i].n := by
  have d := ev_dot (eok_ev he _ (List.getElem_mem hi))
  unfold knowE
  rcases Nat.lt_or_ge j i with h | h
  · obtain ⟨X, Y, Z, _, i2, i3⟩ := eokL_at he.2 i hi
    have h1 := i2 j (by omega) h l[i].p d.1 d.2.1
    have h2 := own_lt he (i := j) (by omega)
    have h3 := i3.1
    unfold kn at h1
    split at h1
    · next e => rw [← e]; omega
    · omega
  · obtain rfl : j = i := by omega
    have := own_lt he hi
    omega
theorem wi_sup {l : List Ev} {i : Nat} {key : ByteArray} {J : List Sb} {a b c : Int} (he : eok l) (h : WI l i key J a b c) (hi : i < l.length) (hk : l[i].key = key) :
    comp a b c l[i].p < l[i].n ∧ supP (l.take (i + 1)) key 0 (if l[i].p = 0 then l[i].n else max a l[i].a) ∧ supP (l.take (i + 1)) key 1 (if l[i].p = 1 then l[i].n else max b l[i].b) ∧ supP (l.take (i + 1)) key 2 (if l[i].p = 2 then l[i].n else max c l[i].c) := by
  have d := ev_dot (eok_ev he _ (List.getElem_mem hi))
  obtain ⟨_, h0, h1, h2⟩ := h
  have c3' : l[i].p = 0 ∨ l[i].p = 1 ∨ l[i].p = 2 := by omega
  rcases c3' with e | e | e
  · have g := seen_lt he hi (by rw [e]; exact h0)
    rw [e] at g ⊢
    simp [comp] at g
    refine ⟨by simp [comp]; omega, supP_step h0 hi hk ?_, supP_step h1 hi hk ?_, supP_step h2 hi hk ?_⟩ <;> simp [kn, e, comp] <;> omega
  · have g := seen_lt he hi (by rw [e]; exact h1)
    rw [e] at g ⊢
    simp [comp] at g
    refine ⟨by simp [comp]; omega, supP_step h0 hi hk ?_, supP_step h1 hi hk ?_, supP_step h2 hi hk ?_⟩ <;> simp [kn, e, comp] <;> omega
  · have g := seen_lt he hi (by rw [e]; exact h2)
    rw [e] at g ⊢
    simp [comp] at g
    refine ⟨by simp [comp]; omega, supP_step h0 hi hk ?_, supP_step h1 hi hk ?_, supP_step h2 hi hk ?_⟩ <;> simp [kn, e, comp] <;> omega
theorem wi_put {l : List Ev} {i : Nat} {key : ByteArray} {J J' : List Sb} {p q r : Int} (he : eok l) (h : WI l i key J p q r) (hi : i < l.length) (hk : l[i].key = key) (hr : J'.Pairwise sl)
    (hm : ∀ s, s ∈ J' ↔ s = sOf l[i] ∨ (s ∈ J ∧ ¬ knowE l[i] s.p s.n)) : WI l (i + 1) key J' (if l[i].p = 0 then l[i].n else max p l[i].a) (if l[i].p = 1 then l[i].n else max q l[i].b) (if l[i].p = 2 then l[i].n else max r l[i].c) := by
  refine ⟨⟨hr, fun s => ?_⟩, (wi_sup he h hi hk).2⟩
  have hin : ∀ f, f ∈ l.take (i + 1) → ∃ j, ∃ hj : j ≤ i, f = l[j]'(by omega) := fun f hf => by
    obtain ⟨j, hj, rfl⟩ := List.getElem_of_mem hf
    have : j < i + 1 ∧ j < l.length := by simp at hj; omega
    exact ⟨j, by omega, by simp⟩
  rw [hm]
  constructor
  · rintro (rfl | ⟨hs, hno⟩)
    · refine ⟨l[i], by rw [List.take_succ_eq_append_getElem hi]; exact List.mem_append.2 (.inr (List.mem_singleton.2 rfl)), hk, fun ⟨f, hf, _, hfe⟩ => ?_, rfl⟩
      obtain ⟨j, hj, rfl⟩ := hin f hf
      exact not_known he hi hj hfe
    · obtain ⟨e, hem, hek, hno2, rfl⟩ := (h.1.2 s).1 hs
      refine ⟨e, by rw [List.take_succ_eq_append_getElem hi]; exact List.mem_append.2 (.inl hem), hek, fun ⟨f, hf, hfk, hfe⟩ => ?_, rfl⟩
      rw [List.take_succ_eq_append_getElem hi] at hf
      rcases List.mem_append.1 hf with hf | hf
      · exact hno2 ⟨f, hf, hfk, hfe⟩
      · rw [List.mem_singleton.1 hf] at hfe
        exact hno hfe
  · rintro ⟨e, hem, hek, hno, rfl⟩
    rw [List.take_succ_eq_append_getElem hi] at hem hno
    rcases List.mem_append.1 hem with hem | hem
    · refine .inr ⟨(h.1.2 _).2 ⟨e, hem, hek, fun ⟨f, hf, k1, k2⟩ => hno ⟨f, List.mem_append.2 (.inl hf), k1, k2⟩, rfl⟩, fun hfe => hno ⟨l[i], List.mem_append.2 (.inr (List.mem_singleton.2 rfl)), hk, hfe⟩⟩
    · rw [List.mem_singleton.1 hem]
      exact .inl rfl
theorem wi_end {l : List Ev} {key : ByteArray} {J : List Sb} {p q r : Int} (h : WI l l.length key J p q r) : OInv l l.length key J p q r := by
  have hm : ∀ s, s ∈ J ↔ ∃ e ∈ l.take l.length, e.key = key ∧ ¬ ovr l e ∧ s = sOf e := fun s => by
    rw [h.1.2]
    simp only [List.take_length]
    constructor
    · rintro ⟨e, he, hek, hno, rfl⟩
      exact ⟨e, he, hek, fun ⟨f, hf, k1, k2⟩ => hno ⟨f, hf, by rw [k1, hek], k2⟩, rfl⟩
    · rintro ⟨e, he, hek, hno, rfl⟩
      exact ⟨e, he, hek, fun ⟨f, hf, k1, k2⟩ => hno ⟨f, hf, by rw [k1, hek], k2⟩, rfl⟩
  exact ⟨⟨h.1.1, hm, ss_len h.1.1 (fun s hs => by
    obtain ⟨e, he, _, _, rfl⟩ := (hm s).1 hs
    rw [List.take_length] at he
    exact ⟨e, he, rfl⟩)⟩, h.2⟩
/-- What is right of such an object. -/
theorem wi_ok {l : List Ev} {i : Nat} {key : ByteArray} {J : List Sb} {p q r : Int} (he : eok l) (h : WI l i key J p q r) (hl : l.length ≤ 17) :
    J.length ≤ 17 ∧ (∀ s ∈ J, dotB s.p s.n = true ∧ valP s.v s.dead ∧ s.n ≤ comp p q r s.p) ∧ vvB p q r = true := by
  have hin : ∀ e ∈ l.take i, e ∈ l := fun e he => List.mem_of_mem_take he
  refine ⟨?_, fun s hs => ?_, ?_⟩
  · have := ss_len (l := l) h.1.1 (fun s hs => by
      obtain ⟨e, hem, _, _, rfl⟩ := (h.1.2 s).1 hs
      exact ⟨e, hin e hem, rfl⟩)
    omega
  · obtain ⟨e, hem, hek, _, rfl⟩ := (h.1.2 s).1 hs
    have h1 := eok_ev he e (hin e hem)
    have d := ev_dot h1
    refine ⟨h1.1, h1.2.2.1, ?_⟩
    have c3' : e.p = 0 ∨ e.p = 1 ∨ e.p = 2 := by omega
    have k0 := h.2.1.2.1 e hem hek
    have k1 := h.2.2.1.2.1 e hem hek
    have k2 := h.2.2.2.2.1 e hem hek
    rcases c3' with x | x | x <;> simp [kn, x] at k0 k1 k2 <;> simp [sOf, comp, x] <;> omega
  · have bd : ∀ c m, 0 ≤ c → c < 3 → supP (l.take i) key c m → 0 ≤ m ∧ m ≤ 9999 := fun c m h0 h3 hs => by
      refine ⟨hs.1, ?_⟩
      rcases hs.2.2 with h4 | ⟨e, hem, _, hk⟩
      · omega
      · have h1 := eok_ev he e (hin e hem)
        have d := ev_dot h1
        have hv : (0 ≤ e.a ∧ e.a ≤ 9999) ∧ (0 ≤ e.b ∧ e.b ≤ 9999) ∧ (0 ≤ e.c ∧ e.c ≤ 9999) := of_decide_eq_true h1.2.2.2
        unfold kn comp at hk
        split at hk
        · omega
        · split at hk
          · omega
          · split at hk <;> omega
    exact decide_eq_true ⟨bd 0 p (by omega) (by omega) h.2.1, bd 1 q (by omega) (by omega) h.2.2.1, bd 2 r (by omega) (by omega) h.2.2.2⟩
/-- It is there just if it was not overwritten. -/
theorem there_iff {l : List Ev} {key : ByteArray} {ss : List Sb} {a b c : Int} (he : eok l) (h : OInv l l.length key ss a b c) {e : Ev} (hem : e ∈ l) (hk : e.key = key) : (∃ s ∈ ss, s.p = e.p ∧ s.n = e.n) ↔ ¬ ovr l e := by
  constructor
  · rintro ⟨s, hs, h1, h2⟩
    obtain ⟨e', he', hek, hno, rfl⟩ := (h.1.2.1 s).1 hs
    rw [List.take_length] at he'
    rw [← apart_one (eok_apart he) he' hem h1 h2]
    exact hno
  · intro hno
    exact ⟨sOf e, (h.1.2.1 _).2 ⟨e, by rw [List.take_length]; exact hem, hk, hno, rfl⟩, rfl, rfl⟩
theorem over_of {l : List Ev} (he : eok l) (hl : l.length ≤ 17) {e : Ev} (hem : e ∈ l) {r : Bool} {c : Int} (h : ovP l e.p e.n r c) : c = 0 ∧ (r = true ↔ ovr l e) := by
  have hd : dotB e.p e.n = true := (eok_ev he e hem).1
  rcases h with ⟨h, _⟩ | ⟨_, h, _⟩ | ⟨_, _, h, _⟩ | ⟨_, _, e', he', ⟨h1, h2⟩, h3, h4⟩
  · omega
  · exact absurd ⟨he, hd⟩ h
  · exact absurd ⟨rfl, rfl⟩ (h e hem)
  · obtain rfl := apart_one (eok_apart he) he' hem h1 h2
    exact ⟨h4, h3⟩
end Go.Proofs.YtkdbcmkmcjaenaaGreatDoor

/- readVv. -/
import Derived.Test.YtgnacdhceiapkaaDoorRows
import Derived.WalkKit
import Derived.WalkSpells
import Derived.WalkLawsBesides
import Derived.Deep.QuietTactic
import Derived.BigQuiet
import Derived.Deep.RegionHeld3
import Derived.Test.YtgnacdhceiapkaaDoorRw
import Derived.Test.YtgnacdhceiapkaaDoorRi
import Derived.LoopN
import Derived.Laws.EntriesVeiled
namespace Go.Proofs.YtgnacdhceiapkaaDoor
open Go.RowKit
set_option linter.unusedSimpArgs false
set_option linter.unusedVariables false

/-- Digits with something behind them that is no digit. -/
def NoD (t : List UInt8) : Prop := ∀ c, t.head? = some c → dg c = false
theorem ldG_nod (most : Int) (t : List UInt8) (i : Nat) (n : Int) (h : NoD t) : ldG most t i n = (n, i) := by
  cases t with
  | nil => rfl
  | cons c t => rw [ldG, if_pos (h c rfl)]
theorem ldG_pre (most : Int) (t : List UInt8) (ht : NoD t) : ∀ (l : List UInt8) (i : Nat) (n : Int), 0 ≤ n → n ≤ most → (0 < i → 0 < n ∨ l = []) → (∀ c ∈ l, dg c = true) → (i = 0 → n = 0 ∧ (1 < l.length → l.head? ≠ some 48)) → l.foldl (fun n c => 10 * n + ((c.toNat : Int) - 48)) n ≤ most → ldG most (l ++ t) i n = (l.foldl (fun n c => 10 * n + ((c.toNat : Int) - 48)) n, i + l.length)
  | [], i, n, _, _, _, _, _, _ => by simpa using ldG_nod most t i n ht
  | c :: l, i, n, hn, hm, hi, hd, h0, hb => by
    have hc := hd c (by simp)
    have hc' := dg_iff.1 hc
    have hge := fold_ge l (10 * n + ((c.toNat : Int) - 48)) (by omega) (fun d hd' => hd d (List.mem_cons_of_mem _ hd'))
    simp only [List.foldl_cons] at hb
    rw [List.cons_append, ldG, if_neg (by simp [hc])]
    have hz : ¬ (0 < i ∧ n = 0) := by
      rintro ⟨h1, h2⟩
      rcases hi h1 with h3 | h3
      · omega
      · cases h3
    rw [if_neg hz, if_neg (by omega)]
    rw [ldG_pre most t ht l (i + 1) _ (by omega) (by omega) (fun _ => ?_) (fun d hd' => hd d (List.mem_cons_of_mem _ hd')) (fun h => by omega) hb]
    · simp only [List.foldl_cons, List.length_cons]
      congr 1
      omega
    · by_cases hi0 : i = 0
      · obtain ⟨hn0, hh⟩ := h0 hi0
        cases l with
        | nil => exact .inr rfl
        | cons d l =>
          left
          have : c ≠ 48 := fun e => hh (by simp) (by simp [e])
          have : c.toNat ≠ 48 := fun e => this (UInt8.toNat_inj.1 (by simpa using e))
          omega
      · left
        rcases hi (by omega) with h3 | h3
        · omega
        · cases h3
/-- A numeral ahead of what is no digit is read. -/
theorem ld_pre {most : Int} {a t : List UInt8} (h : Num a) (h0 : 0 ≤ most) (hb : nv a ≤ most) (ht : NoD t) : ld most (a ++ t) = (nv a, a.length) := by
  have := ldG_pre most t ht a 0 0 (by omega) h0 (fun h => by omega) h.2.1 (fun _ => ⟨rfl, h.2.2⟩) hb
  rw [Nat.zero_add] at this
  exact this
theorem ldG_cut (most : Int) : ∀ (l : List UInt8) (i : Nat) (n m : Int) (k : Nat), ldG most l i n = (m, i + k) → 0 < i + k → k ≤ l.length ∧ (∀ c ∈ l.take k, dg c = true) ∧ m = (l.take k).foldl (fun n c => 10 * n + ((c.toNat : Int) - 48)) n ∧ (0 < k → m ≤ most) ∧ (0 < k → 0 < i → n ≠ 0) ∧ (i = 0 → n = 0 → 1 < k → l.head? ≠ some 48) ∧ NoD (l.drop k)
  | [], i, n, m, k, h, _ => by
    simp only [ldG, Prod.mk.injEq] at h
    have hk : k = 0 := by omega
    subst hk
    refine ⟨by simp, ?_, h.1.symm, ?_, ?_, ?_, ?_⟩
    · intro c hc; simp at hc
    · intro h; omega
    · intro h; omega
    · intro _ _ h; omega
    · intro c hc; simp at hc
  | c :: l, i, n, m, k, h, hp => by
    rw [ldG] at h
    by_cases hd : dg c = false
    · rw [if_pos hd] at h
      simp only [Prod.mk.injEq] at h
      have hk : k = 0 := by omega
      subst hk
      refine ⟨by simp, ?_, by simpa using h.1.symm, ?_, ?_, ?_, ?_⟩
      · intro c hc; simp at hc
      · intro h; omega
      · intro h; omega
      · intro _ _ h; omega
      · intro d hd'; simp at hd'; subst hd'; exact hd
    · rw [if_neg hd] at h
      by_cases hz : 0 < i ∧ n = 0
      · rw [if_pos hz] at h
        simp only [Prod.mk.injEq] at h
        omega
      · rw [if_neg hz] at h
        by_cases hb : most < 10 * n + ((c.toNat : Int) - 48)
        · rw [if_pos hb] at h
          simp only [Prod.mk.injEq] at h
          omega
        · rw [if_neg hb] at h
          have hk : ∃ k', k = k' + 1 := by
            cases k with
            | zero =>
              exfalso
              have := (ldG_mono most l (i + 1) (10 * n + ((c.toNat : Int) - 48)))
              rw [h] at this
              simp at this
              omega
            | succ k' => exact ⟨k', rfl⟩
          obtain ⟨k', rfl⟩ := hk
          have e : i + (k' + 1) = (i + 1) + k' := by omega
          rw [e] at h
          obtain ⟨h0, h1, h2, h3, h4, h5, h6⟩ := ldG_cut most l (i + 1) _ m k' h (by omega)
          refine ⟨by simp; omega, ?_, ?_, ?_, ?_, ?_, ?_⟩
          · intro d hd'
            rw [List.take_succ_cons] at hd'
            rcases List.mem_cons.1 hd' with e' | e'
            · subst e'; simpa using hd
            · exact h1 d e'
          · rw [List.take_succ_cons, List.foldl_cons]; exact h2
          · intro _
            rcases Nat.eq_zero_or_pos k' with hk0 | hk0
            · subst hk0; simp at h2; omega
            · exact h3 hk0
          · intro _ hi hn; exact hz ⟨hi, hn⟩
          · intro hi hn hlen
            have := h4 (by omega) (by omega)
            subst hn
            intro e'
            simp at e'
            subst e'
            simp at this
          · rw [List.drop_succ_cons]; exact h6
where
  ldG_mono (most : Int) : ∀ (l : List UInt8) (i : Nat) (n : Int), (ldG most l i n).2 = 0 ∨ i ≤ (ldG most l i n).2
    | [], i, n => by simp [ldG]
    | c :: l, i, n => by
      rw [ldG]
      split
      · right; exact Nat.le_refl _
      · split
        · left; rfl
        · split
          · left; rfl
          · rcases ldG_mono most l (i + 1) (10 * n + ((c.toNat : Int) - 48)) with h | h
            · left; exact h
            · right; omega
/-- What is read is a numeral of at most most, with no digit behind it. -/
theorem ld_cut {most : Int} {l : List UInt8} {m : Int} {k : Nat} (h : ld most l = (m, k)) (hk : 0 < k) : k ≤ l.length ∧ Num (l.take k) ∧ m = nv (l.take k) ∧ nv (l.take k) ≤ most ∧ NoD (l.drop k) := by
  have h' : ldG most l 0 0 = (m, 0 + k) := by rw [Nat.zero_add]; exact h
  obtain ⟨h0, h1, h2, h3, _, h5, h6⟩ := ldG_cut most l 0 0 m k h' (by omega)
  have hlen : (l.take k).length = k := by simp; omega
  have h7 := h3 hk
  rw [h2] at h7
  refine ⟨h0, ⟨fun e => by rw [e] at hlen; simp at hlen; omega, h1, fun hl => ?_⟩, h2, h7, h6⟩
  rw [hlen] at hl
  have := h5 rfl rfl hl
  cases l with
  | nil => simp at h0; omega
  | cons c l =>
    cases k with
    | zero => omega
    | succ k => simpa using this
/-- Parts between signs. -/
def cutL (c : UInt8) : List UInt8 → List (List UInt8)
  | [] => [[]]
  | d :: l => if d = c then [] :: cutL c l else match cutL c l with
    | [] => [[d]]
    | p :: ps => (d :: p) :: ps
theorem cutL_ne (c : UInt8) : ∀ l, cutL c l ≠ []
  | [] => by simp [cutL]
  | d :: l => by
    unfold cutL
    split
    · simp
    · split <;> simp
theorem cutL_none (c : UInt8) : ∀ (a : List UInt8), (∀ d ∈ a, d ≠ c) → cutL c a = [a]
  | [], _ => rfl
  | d :: a, h => by
    rw [cutL, if_neg (h d (by simp)), cutL_none c a (fun e he => h e (List.mem_cons_of_mem _ he))]
theorem cutL_app (c : UInt8) : ∀ (a l : List UInt8), (∀ d ∈ a, d ≠ c) → cutL c (a ++ c :: l) = a :: cutL c l
  | [], l, _ => by rw [List.nil_append, cutL, if_pos rfl]
  | d :: a, l, h => by
    rw [List.cons_append, cutL, if_neg (h d (by simp)), cutL_app c a l (fun e he => h e (List.mem_cons_of_mem _ he))]
/-- Parts put together again. -/
def glue (c : UInt8) : List (List UInt8) → List UInt8
  | [] => []
  | [p] => p
  | p :: q :: ps => p ++ c :: glue c (q :: ps)
theorem glue_cut (c : UInt8) : ∀ l, glue c (cutL c l) = l
  | [] => rfl
  | d :: l => by
    have ih := glue_cut c l
    rw [cutL]
    by_cases h : d = c
    · rw [if_pos h]
      cases hp : cutL c l with
      | nil => exact (cutL_ne c l hp).elim
      | cons p ps => rw [hp] at ih; rw [glue, ih, h]; rfl
    · rw [if_neg h]
      cases hp : cutL c l with
      | nil => exact (cutL_ne c l hp).elim
      | cons p ps =>
        rw [hp] at ih
        cases ps with
        | nil => simp only [glue] at ih ⊢; rw [ih]
        | cons q ps => simp only [glue] at ih ⊢; rw [List.cons_append, ih]
/-- A text of what is known. -/
def VvT (l a b c : List UInt8) : Prop := l = a ++ 46 :: (b ++ 46 :: c) ∧ (Num a ∧ nv a ≤ 9999) ∧ (Num b ∧ nv b ≤ 9999) ∧ (Num c ∧ nv c ≤ 9999)
theorem num_nodot {a : List UInt8} (h : Num a) : ∀ d ∈ a, d ≠ 46 := fun d hd e => by
  have := dg_iff.1 (h.2.1 d hd)
  rw [e] at this
  simp at this
theorem vvT_cut {l a b c : List UInt8} (h : VvT l a b c) : cutL 46 l = [a, b, c] := by
  rw [h.1, cutL_app 46 a _ (num_nodot h.2.1.1), cutL_app 46 b _ (num_nodot h.2.2.1.1), cutL_none 46 c (num_nodot h.2.2.2.1)]
theorem cut_vvT {l a b c : List UInt8} (h : cutL 46 l = [a, b, c]) (ha : Num a ∧ nv a ≤ 9999) (hb : Num b ∧ nv b ≤ 9999) (hc : Num c ∧ nv c ≤ 9999) : VvT l a b c := by
  refine ⟨?_, ha, hb, hc⟩
  have := glue_cut 46 l
  rw [h] at this
  exact this.symm
theorem nod_dot (t : List UInt8) : NoD (46 :: t) := fun c hc => by
  simp at hc
  subst hc
  decide
theorem nod_nil : NoD [] := fun c hc => by simp at hc

/-- A number off the beginning. -/
def rv1 (l : List UInt8) : Option (Int × List UInt8) := if 0 < (ld 9999 l).2 then some ((ld 9999 l).1, l.drop (ld 9999 l).2) else none
/-- A dot off the beginning. -/
def sgD : List UInt8 → Option (List UInt8)
  | [] => none
  | c :: r => if c.toNat = 46 then some r else none
def rvA (l : List UInt8) : Option ((Int × Int × Int) × List UInt8) := (rv1 l).map fun q => ((q.1, 0, 0), q.2)
def rvB (l : List UInt8) : Option ((Int × Int × Int) × List UInt8) := (rvA l).bind fun p => (sgD p.2).bind fun r => (rv1 r).map fun q => ((p.1.1, q.1, 0), q.2)
def rvC (l : List UInt8) : Option ((Int × Int × Int) × List UInt8) := (rvB l).bind fun p => (sgD p.2).bind fun r => (rv1 r).map fun q => ((p.1.1, p.1.2.1, q.1), q.2)
def rvS (l : List UInt8) (i : Nat) : Option ((Int × Int × Int) × List UInt8) := if i = 0 then some ((0, 0, 0), l) else if i = 1 then rvA l else if i = 2 then rvB l else rvC l
theorem rvS_0 (l : List UInt8) : rvS l 0 = some ((0, 0, 0), l) := rfl
theorem rvS_1 (l : List UInt8) : rvS l 1 = (rv1 l).map fun q => ((q.1, 0, 0), q.2) := rfl
theorem rvS_2 (l : List UInt8) : rvS l 2 = (rvS l 1).bind fun p => (sgD p.2).bind fun r => (rv1 r).map fun q => ((p.1.1, q.1, 0), q.2) := rfl
theorem rvS_3 (l : List UInt8) : rvS l 3 = (rvS l 2).bind fun p => (sgD p.2).bind fun r => (rv1 r).map fun q => ((p.1.1, p.1.2.1, q.1), q.2) := rfl
theorem rv1_yes {l : List UInt8} {n : Int} {k : Nat} (h : ld 9999 l = (n, k)) (hk : 0 < k) : rv1 l = some (n, l.drop k) := by rw [rv1, h, if_pos hk]
theorem rv1_no {l : List UInt8} {n : Int} {k : Nat} (h : ld 9999 l = (n, k)) (hk : ¬ 0 < k) : rv1 l = none := by rw [rv1, h, if_neg hk]
theorem rvS_none {l : List UInt8} {i : Nat} (hi : i ≤ 3) (h : rvS l i = none) : rvS l 3 = none := by
  have h4 : i = 0 ∨ i = 1 ∨ i = 2 ∨ i = 3 := by omega
  rcases h4 with rfl | rfl | rfl | rfl
  · rw [rvS_0] at h; cases h
  · rw [rvS_3, rvS_2, h]; rfl
  · rw [rvS_3, h]; rfl
  · exact h
theorem sgD_none {s : ByteArray} (h : s.size = 0) : sgD (bl s) = none := by
  have : bl s = [] := List.length_eq_zero_iff.1 (by rw [bl_len]; exact h)
  rw [this]; rfl
theorem sgD_at {s : ByteArray} (h : 0 < s.size) : sgD (bl s) = if (s[0]'h).toNat = 46 then some ((bl s).drop 1) else none := by
  have := bl_drop s 0 h
  rw [List.drop_zero] at this
  rw [this]
  rfl

theorem cell_oth3 {W : World} {g o o' : Nat} {u v : Value} (h : W.cell? ⟨g, o, none⟩ = some v) (hne : o ≠ o') : (W.setCell ⟨g, o', none⟩ u).cell? ⟨g, o, none⟩ = some v := by
  rw [World.cell?_setCell_other _ _ _ _ (fun e => by cases e; exact hne rfl)]
  exact h
/-- What the reading of what is known keeps. -/
def RVI (w wr : World) (g : Nat) (s : ByteArray) (x y z : Int) : Prop := (wr.cell? ⟨w.heap.size, 0, none⟩ = some (.func (.func 63) #[] #[.pointer (some ⟨g, 0, none⟩)]) ∧ wr.cell? ⟨w.heap.size, 1, none⟩ = some (.func (.func 64) #[] #[.pointer (some ⟨g, 0, none⟩)])) ∧ (wr.cell? ⟨w.heap.size + 1, 0, none⟩ = some (.int .i64 0) ∧ wr.cell? ⟨w.heap.size + 1, 1, none⟩ = some (.int .i64 0) ∧ wr.cell? ⟨w.heap.size + 1, 2, none⟩ = some (.int .i64 0)) ∧ (wr.frozen? ⟨w.heap.size + 1, 0, none⟩ = false ∧ wr.frozen? ⟨w.heap.size + 1, 1, none⟩ = false ∧ wr.frozen? ⟨w.heap.size + 1, 2, none⟩ = false) ∧ (wr.cell? ⟨w.heap.size + 1 + 1, 0, none⟩ = some (.int .i64 x) ∧ wr.cell? ⟨w.heap.size + 1 + 1, 1, none⟩ = some (.int .i64 y) ∧ wr.cell? ⟨w.heap.size + 1 + 1, 2, none⟩ = some (.int .i64 z)) ∧ (wr.frozen? ⟨w.heap.size + 1 + 1, 0, none⟩ = false ∧ wr.frozen? ⟨w.heap.size + 1 + 1, 1, none⟩ = false ∧ wr.frozen? ⟨w.heap.size + 1 + 1, 2, none⟩ = false) ∧ Left wr g s ∧ w.grownBy wr (some g) ∧ w.heap.size + 1 + 1 < wr.heap.size
theorem RVI.grown {w wr wr' : World} {g : Nat} {s s' : ByteArray} {x y z : Int} (h : RVI w wr g s x y z) (hg : g < w.heap.size) (hG : wr.grownBy wr' (some g)) (hL : Left wr' g s') : RVI w wr' g s' x y z := by
  obtain ⟨⟨a, b⟩, ⟨c0, c1, c2⟩, ⟨q0, q1, q2⟩, ⟨v0, v1, v2⟩, ⟨p0, p1, p2⟩, _, gr, hz⟩ := h
  exact ⟨⟨grown_cell hG a (by omega), grown_cell hG b (by omega)⟩, ⟨grown_cell hG c0 (by omega), grown_cell hG c1 (by omega), grown_cell hG c2 (by omega)⟩, ⟨grown_froz hG q0 (by omega) (by omega), grown_froz hG q1 (by omega) (by omega), grown_froz hG q2 (by omega) (by omega)⟩, ⟨grown_cell hG v0 (by omega), grown_cell hG v1 (by omega), grown_cell hG v2 (by omega)⟩, ⟨grown_froz hG p0 (by omega) (by omega), grown_froz hG p1 (by omega) (by omega), grown_froz hG p2 (by omega) (by omega)⟩, hL, gb_trans gr hG, Nat.lt_of_lt_of_le hz hG.size⟩
theorem RVI.set0 {w wr : World} {g : Nat} {s : ByteArray} {x y z n : Int} (h : RVI w wr g s x y z) (hg : g < w.heap.size) : RVI w (wr.setCell ⟨w.heap.size + 1 + 1, 0, none⟩ (.int .i64 n)) g s n y z :=
  ⟨⟨cell_set h.1.1 (by omega), cell_set h.1.2 (by omega)⟩, ⟨cell_set h.2.1.1 (by omega), cell_set h.2.1.2.1 (by omega), cell_set h.2.1.2.2 (by omega)⟩, ⟨by rw [World.frozen?_setCell]; exact h.2.2.1.1, by rw [World.frozen?_setCell]; exact h.2.2.1.2.1, by rw [World.frozen?_setCell]; exact h.2.2.1.2.2⟩, ⟨cell_same h.2.2.2.1.1, cell_oth3 h.2.2.2.1.2.1 (by omega), cell_oth3 h.2.2.2.1.2.2 (by omega)⟩, ⟨by rw [World.frozen?_setCell]; exact h.2.2.2.2.1.1, by rw [World.frozen?_setCell]; exact h.2.2.2.2.1.2.1, by rw [World.frozen?_setCell]; exact h.2.2.2.2.1.2.2⟩, ⟨cell_set h.2.2.2.2.2.1.1 (by omega), by rw [World.frozen?_setCell]; exact h.2.2.2.2.2.1.2⟩, gb_new h.2.2.2.2.2.2.1 (by omega), by simpa [World.setCell] using h.2.2.2.2.2.2.2⟩
theorem RVI.set1 {w wr : World} {g : Nat} {s : ByteArray} {x y z n : Int} (h : RVI w wr g s x y z) (hg : g < w.heap.size) : RVI w (wr.setCell ⟨w.heap.size + 1 + 1, 1, none⟩ (.int .i64 n)) g s x n z :=
  ⟨⟨cell_set h.1.1 (by omega), cell_set h.1.2 (by omega)⟩, ⟨cell_set h.2.1.1 (by omega), cell_set h.2.1.2.1 (by omega), cell_set h.2.1.2.2 (by omega)⟩, ⟨by rw [World.frozen?_setCell]; exact h.2.2.1.1, by rw [World.frozen?_setCell]; exact h.2.2.1.2.1, by rw [World.frozen?_setCell]; exact h.2.2.1.2.2⟩, ⟨cell_oth3 h.2.2.2.1.1 (by omega), cell_same h.2.2.2.1.2.1, cell_oth3 h.2.2.2.1.2.2 (by omega)⟩, ⟨by rw [World.frozen?_setCell]; exact h.2.2.2.2.1.1, by rw [World.frozen?_setCell]; exact h.2.2.2.2.1.2.1, by rw [World.frozen?_setCell]; exact h.2.2.2.2.1.2.2⟩, ⟨cell_set h.2.2.2.2.2.1.1 (by omega), by rw [World.frozen?_setCell]; exact h.2.2.2.2.2.1.2⟩, gb_new h.2.2.2.2.2.2.1 (by omega), by simpa [World.setCell] using h.2.2.2.2.2.2.2⟩
theorem RVI.set2 {w wr : World} {g : Nat} {s : ByteArray} {x y z n : Int} (h : RVI w wr g s x y z) (hg : g < w.heap.size) : RVI w (wr.setCell ⟨w.heap.size + 1 + 1, 2, none⟩ (.int .i64 n)) g s x y n :=
  ⟨⟨cell_set h.1.1 (by omega), cell_set h.1.2 (by omega)⟩, ⟨cell_set h.2.1.1 (by omega), cell_set h.2.1.2.1 (by omega), cell_set h.2.1.2.2 (by omega)⟩, ⟨by rw [World.frozen?_setCell]; exact h.2.2.1.1, by rw [World.frozen?_setCell]; exact h.2.2.1.2.1, by rw [World.frozen?_setCell]; exact h.2.2.1.2.2⟩, ⟨cell_oth3 h.2.2.2.1.1 (by omega), cell_oth3 h.2.2.2.1.2.1 (by omega), cell_same h.2.2.2.1.2.2⟩, ⟨by rw [World.frozen?_setCell]; exact h.2.2.2.2.1.1, by rw [World.frozen?_setCell]; exact h.2.2.2.2.1.2.1, by rw [World.frozen?_setCell]; exact h.2.2.2.2.1.2.2⟩, ⟨cell_set h.2.2.2.2.2.1.1 (by omega), by rw [World.frozen?_setCell]; exact h.2.2.2.2.2.1.2⟩, gb_new h.2.2.2.2.2.2.1 (by omega), by simpa [World.setCell] using h.2.2.2.2.2.2.2⟩
theorem left_set3 {w : World} {g b o1 o2 o3 : Nat} {s : ByteArray} {u v t : Value} (h : Left w g s) (hne : g ≠ b) : Left (((w.setCell ⟨b, o1, none⟩ u).setCell ⟨b, o2, none⟩ v).setCell ⟨b, o3, none⟩ t) g s := ⟨cell_set (cell_set (cell_set h.1 hne) hne) hne, by rw [World.frozen?_setCell, World.frozen?_setCell, World.frozen?_setCell]; exact h.2⟩
theorem rvS1_z {l r : List UInt8} {x y z : Int} (h : rvS l 1 = some ((x, y, z), r)) : y = 0 ∧ z = 0 := by
  rw [rvS_1] at h
  cases hq : rv1 l with
  | none => rw [hq] at h; cases h
  | some q => rw [hq] at h; simp at h; exact ⟨h.1.2.1.symm, h.1.2.2.symm⟩
theorem rvS2_z {l r : List UInt8} {x y z : Int} (h : rvS l 2 = some ((x, y, z), r)) : z = 0 := by
  rw [rvS_2] at h
  cases hq : rvS l 1 with
  | none => rw [hq] at h; cases h
  | some q =>
    rw [hq] at h
    simp only [Option.bind_some] at h
    cases hr : sgD q.2 with
    | none => rw [hr] at h; cases h
    | some t =>
      rw [hr] at h
      simp only [Option.bind_some] at h
      cases hv : rv1 t with
      | none => rw [hv] at h; cases h
      | some v => rw [hv] at h; simp at h; exact h.1.2.2.symm
/-- What a call of readVv leaves. -/
def RvP (w : World) (g : Nat) (l : List UInt8) (e : Ending) (w' : World) : Prop := (∃ x y z rest, rvS l 3 = some ((x, y, z), rest) ∧ e = .returned (.tuple #[.agg #[.int .i64 x, .int .i64 y, .int .i64 z], .bool true]) ∧ ∃ s', Left w' g s' ∧ bl s' = rest ∧ w.grownBy w' (some g)) ∨ (rvS l 3 = none ∧ e = .returned (.tuple #[.agg #[.int .i64 0, .int .i64 0, .int .i64 0], .bool false]) ∧ w.grownBy w' (some g))
set_option maxHeartbeats 16000000 in
theorem readVv_any (g : Nat) (s : ByteArray) (w : World) (hg : g < w.heap.size) (hL0 : Left w g s) (hs : s.size ≤ 65536) :
    Calls Tryd.prog 26 #[.agg #[.func (.func 63) #[] #[.pointer (some ⟨g, 0, none⟩)], .func (.func 64) #[] #[.pointer (some ⟨g, 0, none⟩)], .func (.func 66) #[] #[.pointer (some ⟨g, 0, none⟩)]]] w fun e w' => RvP w g (bl s) e w' := by
  have B2 : Below w.heap.size w (((w.alloc (.cells #[.func (.func 63) #[] #[.pointer (some ⟨g, 0, none⟩)], .func (.func 64) #[] #[.pointer (some ⟨g, 0, none⟩)], .func (.func 66) #[] #[.pointer (some ⟨g, 0, none⟩)]] 80)).alloc (.cells #[.int .i64 0, .int .i64 0, .int .i64 0] 27)).alloc (.cells #[.int .i64 0, .int .i64 0, .int .i64 0] 27)) := ((bel_alloc _ _).trans ((bel_alloc _ _).mono (by simp))).trans ((bel_alloc _ _).mono (by simp; omega))
  have RV0 : Hid (RVI w (((w.alloc (.cells #[.func (.func 63) #[] #[.pointer (some ⟨g, 0, none⟩)], .func (.func 64) #[] #[.pointer (some ⟨g, 0, none⟩)], .func (.func 66) #[] #[.pointer (some ⟨g, 0, none⟩)]] 80)).alloc (.cells #[.int .i64 0, .int .i64 0, .int .i64 0] 27)).alloc (.cells #[.int .i64 0, .int .i64 0, .int .i64 0] 27)) g s 0 0 0) := ⟨⟨by go_simp, by go_simp⟩, ⟨by go_simp, by go_simp, by go_simp⟩, ⟨by go_simp, by go_simp, by go_simp⟩, ⟨by go_simp, by go_simp, by go_simp⟩, ⟨by go_simp, by go_simp, by go_simp⟩, left_next hL0 B2 hg, gb_below B2, by simp⟩
  clear B2 hL0
  go_enter Tryd.func26, Tryd.ntmps26
  go_wp2
  generalize (((w.alloc (.cells #[.func (.func 63) #[] #[.pointer (some ⟨g, 0, none⟩)], .func (.func 64) #[] #[.pointer (some ⟨g, 0, none⟩)], .func (.func 66) #[] #[.pointer (some ⟨g, 0, none⟩)]] 80)).alloc (.cells #[.int .i64 0, .int .i64 0, .int .i64 0] 27)).alloc (.cells #[.int .i64 0, .int .i64 0, .int .i64 0] 27)) = W2 at *
  go_loopw [8] (fun s8 wr => ∃ (i : Nat) (si : ByteArray) (x y z : Int), i ≤ 3 ∧ s8 = .int .i64 i ∧ RVI w wr g si x y z ∧ rvS (bl s) i = some ((x, y, z), bl si) ∧ si.size ≤ 65536) (fun s8 _ => 3 - (intOf s8).toNat)
  case atStart => exact ⟨0, s, 0, 0, 0, by omega, rfl, RV0.out, rfl, hs⟩
  case round =>
    obtain ⟨i, si, x, y, z, hi, rfl, hRV, hS0, hsi⟩ := hrel
    have hp4 : i = 0 ∨ i = 1 ∨ i = 2 ∨ i = 3 := by omega
    rcases hp4 with rfl | rfl | rfl | rfl
    · simp only [rvS_0, Option.some.injEq, Prod.mk.injEq] at hS0
      obtain ⟨⟨rfl, rfl, rfl⟩, hz0'⟩ := hS0
      have hz0 : Hid (bl s = bl si) := hz0'
      have RV : Hid (RVI w wr g si 0 0 0) := hRV
      clear hRV hz0' RV0
      obtain ⟨n, k, hnk0⟩ : ∃ n k, ld 9999 (bl si) = (n, k) := ⟨_, _, rfl⟩
      have hnk : Hid (ld 9999 (bl si) = (n, k)) := hnk0
      clear hnk0
      have f1 := RV.out.1.2
      go_wp2_with fail
      refine (number_any g si 9999 n k hnk _ RV.out.2.2.2.2.2.1 (Nat.lt_of_lt_of_le hg RV.out.2.2.2.2.2.2.1.size) (by omega) (by omega) (by omega)).mono ?_
      rintro e w4 ⟨rfl, hL4, hg4⟩
      have RV4 : Hid (RVI w w4 g (si.extract k si.size) 0 0 0) := RV.out.grown hg hg4 hL4
      have hk1 : Hid (k ≤ si.size) := ld_le hnk (by decide)
      clear f1 hL4 hg4
      by_cases hk : 0 < k
      · have hkd : decide (0 < k) = true := decide_eq_true hk
        rw [hkd]
        have HS1 : Hid (rvS (bl s) 1 = some ((n, 0, 0), bl (si.extract k si.size))) := by
          show _ = _
          rw [sl_bl _ _ hk1.out]
          rw [rvS_1, hz0.out, rv1_yes hnk.out hk]; rfl
        obtain ⟨_, _, _, ⟨v0, v1, v2⟩, ⟨p0, p1, p2⟩, _, _, hz⟩ := RV4.out
        have RV5 : Hid (RVI w (w4.setCell ⟨w.heap.size + 1 + 1, 0, none⟩ (.int .i64 n)) g (si.extract k si.size) n 0 0) := RV4.out.set0 hg
        have hsz : Hid ((si.extract k si.size).size ≤ 65536) := by show _ ≤ _; rw [sl_size _ _ hk1.out]; omega
        go_wp2
        go_roundw
        case rel => exact ⟨1, _, n, 0, 0, by omega, by go_num, RV5.out, HS1.out, hsz.out⟩
        case measure => simp [intOf]
      · have hkd : decide (0 < k) = false := decide_eq_false hk
        rw [hkd]
        have HF : Hid (rvS (bl s) 3 = none) := rvS_none (i := 1) (by omega) (by rw [rvS_1, hz0.out, rv1_no hnk.out hk]; rfl)
        obtain ⟨⟨f0, f1⟩, ⟨r0, r1, r2⟩, ⟨q0, q1, q2⟩, _, _, _, hG, hz⟩ := RV4.out
        have hG' : Hid (w.grownBy _ (some g)) := hG
        clear f0 f1 hG
        go_wp2
        (try rw [Exit.noGoto_ret])
        refine bodyPost_ret (v := .tuple #[.agg #[.int .i64 0, .int .i64 0, .int .i64 0], .bool false]) (by simp [results, Tryd.results26, go_sem, r0, r1, r2, q0, q1, q2]) rfl (.inr ⟨HF.out, rfl, gb_new (gb_new (gb_new hG'.out (by omega)) (by omega)) (by omega)⟩)
    · obtain ⟨rfl, rfl⟩ := rvS1_z hS0
      have HS : Hid (rvS (bl s) 1 = some ((x, 0, 0), bl si)) := hS0
      have RV : Hid (RVI w wr g si x 0 0) := hRV
      clear hRV hS0 RV0
      have f0 := RV.out.1.1
      by_cases hs0 : si.size = 0
      · go_wp2_with fail
        refine (sign_none g si 46 _ RV.out.2.2.2.2.2.1.1 hs0).mono ?_
        rintro e w' ⟨rfl, rfl⟩
        clear f0
        have HF : Hid (rvS (bl s) 3 = none) := rvS_none (i := 2) (by omega) (by rw [rvS_2, HS.out]; simp only [Option.bind_some]; rw [sgD_none hs0]; rfl)
        obtain ⟨⟨f0, f1⟩, ⟨r0, r1, r2⟩, ⟨q0, q1, q2⟩, _, _, _, hG, hz⟩ := RV.out
        have hG' : Hid (w.grownBy _ (some g)) := hG
        clear f0 f1 hG
        go_wp2
        (try rw [Exit.noGoto_ret])
        refine bodyPost_ret (v := .tuple #[.agg #[.int .i64 0, .int .i64 0, .int .i64 0], .bool false]) (by simp [results, Tryd.results26, go_sem, r0, r1, r2, q0, q1, q2]) rfl (.inr ⟨HF.out, rfl, gb_new (gb_new (gb_new hG'.out (by omega)) (by omega)) (by omega)⟩)
      have hs1 : 0 < si.size := by omega
      by_cases hc : (si[0]'hs1).toNat = 46
      · go_wp2_with fail
        refine (sign_yes g si 46 _ RV.out.2.2.2.2.2.1.1 RV.out.2.2.2.2.2.1.2 hs1 hc).mono ?_
        rintro e W3 ⟨rfl, hW3⟩
        have RV3 : Hid (RVI w W3 g (si.extract 1 si.size) x 0 0) := by
          rw [hW3]
          exact RV.out.grown hg (gb_set _ _ _ _) (left_set RV.out.2.2.2.2.2.1)
        have hss : (si.extract 1 si.size).size ≤ 65536 := by rw [sl_size si 1 hs1]; omega
        clear hW3 f0
        obtain ⟨n, k, hnk0⟩ : ∃ n k, ld 9999 (bl (si.extract 1 si.size)) = (n, k) := ⟨_, _, rfl⟩
        have hnk : Hid (ld 9999 (bl (si.extract 1 si.size)) = (n, k)) := hnk0
        clear hnk0
        have f1 := RV3.out.1.2
        go_wp2_with fail
        refine (number_any g (si.extract 1 si.size) 9999 n k hnk _ RV3.out.2.2.2.2.2.1 (Nat.lt_of_lt_of_le hg RV3.out.2.2.2.2.2.2.1.size) (by omega) (by omega) (by omega)).mono ?_
        rintro e w4 ⟨rfl, hL4, hg4⟩
        have RV4 : Hid (RVI w w4 g ((si.extract 1 si.size).extract k (si.extract 1 si.size).size) x 0 0) := RV3.out.grown hg hg4 hL4
        have hk1 : Hid (k ≤ (si.extract 1 si.size).size) := ld_le hnk (by decide)
        clear f1 hL4 hg4
        by_cases hk : 0 < k
        · have hkd : decide (0 < k) = true := decide_eq_true hk
          rw [hkd]
          have HS1 : Hid (rvS (bl s) 2 = some ((x, n, 0), bl ((si.extract 1 si.size).extract k (si.extract 1 si.size).size))) := by
            show _ = _
            rw [sl_bl _ _ hk1.out]
            rw [rvS_2, HS.out]; simp only [Option.bind_some]; rw [sgD_at hs1, if_pos hc, ← sl_bl si 1 hs1]; simp only [Option.bind_some]; rw [rv1_yes hnk.out hk]; rfl
          obtain ⟨_, _, _, ⟨v0, v1, v2⟩, ⟨p0, p1, p2⟩, _, _, hz⟩ := RV4.out
          have RV5 : Hid (RVI w (w4.setCell ⟨w.heap.size + 1 + 1, 1, none⟩ (.int .i64 n)) g ((si.extract 1 si.size).extract k (si.extract 1 si.size).size) x n 0) := RV4.out.set1 hg
          have hsz : Hid (((si.extract 1 si.size).extract k (si.extract 1 si.size).size).size ≤ 65536) := by show _ ≤ _; rw [sl_size _ _ hk1.out]; omega
          go_wp2
          go_roundw
          case rel => exact ⟨2, _, x, n, 0, by omega, by go_num, RV5.out, HS1.out, hsz.out⟩
          case measure => simp [intOf]
        · have hkd : decide (0 < k) = false := decide_eq_false hk
          rw [hkd]
          have HF : Hid (rvS (bl s) 3 = none) := rvS_none (i := 2) (by omega) (by rw [rvS_2, HS.out]; simp only [Option.bind_some]; rw [sgD_at hs1, if_pos hc, ← sl_bl si 1 hs1]; simp only [Option.bind_some]; rw [rv1_no hnk.out hk]; rfl)
          obtain ⟨⟨f0, f1⟩, ⟨r0, r1, r2⟩, ⟨q0, q1, q2⟩, _, _, _, hG, hz⟩ := RV4.out
          have hG' : Hid (w.grownBy _ (some g)) := hG
          clear f0 f1 hG
          go_wp2
          (try rw [Exit.noGoto_ret])
          refine bodyPost_ret (v := .tuple #[.agg #[.int .i64 0, .int .i64 0, .int .i64 0], .bool false]) (by simp [results, Tryd.results26, go_sem, r0, r1, r2, q0, q1, q2]) rfl (.inr ⟨HF.out, rfl, gb_new (gb_new (gb_new hG'.out (by omega)) (by omega)) (by omega)⟩)
      · go_wp2_with fail
        refine (sign_other g si 46 _ RV.out.2.2.2.2.2.1.1 hs1 hc).mono ?_
        rintro e w' ⟨rfl, rfl⟩
        clear f0
        have HF : Hid (rvS (bl s) 3 = none) := rvS_none (i := 2) (by omega) (by rw [rvS_2, HS.out]; simp only [Option.bind_some]; rw [sgD_at hs1, if_neg hc]; rfl)
        obtain ⟨⟨f0, f1⟩, ⟨r0, r1, r2⟩, ⟨q0, q1, q2⟩, _, _, _, hG, hz⟩ := RV.out
        have hG' : Hid (w.grownBy _ (some g)) := hG
        clear f0 f1 hG
        go_wp2
        (try rw [Exit.noGoto_ret])
        refine bodyPost_ret (v := .tuple #[.agg #[.int .i64 0, .int .i64 0, .int .i64 0], .bool false]) (by simp [results, Tryd.results26, go_sem, r0, r1, r2, q0, q1, q2]) rfl (.inr ⟨HF.out, rfl, gb_new (gb_new (gb_new hG'.out (by omega)) (by omega)) (by omega)⟩)
    · obtain rfl := rvS2_z hS0
      have HS : Hid (rvS (bl s) 2 = some ((x, y, 0), bl si)) := hS0
      have RV : Hid (RVI w wr g si x y 0) := hRV
      clear hRV hS0 RV0
      have f0 := RV.out.1.1
      by_cases hs0 : si.size = 0
      · go_wp2_with fail
        refine (sign_none g si 46 _ RV.out.2.2.2.2.2.1.1 hs0).mono ?_
        rintro e w' ⟨rfl, rfl⟩
        clear f0
        have HF : Hid (rvS (bl s) 3 = none) := rvS_none (i := 3) (by omega) (by rw [rvS_3, HS.out]; simp only [Option.bind_some]; rw [sgD_none hs0]; rfl)
        obtain ⟨⟨f0, f1⟩, ⟨r0, r1, r2⟩, ⟨q0, q1, q2⟩, _, _, _, hG, hz⟩ := RV.out
        have hG' : Hid (w.grownBy _ (some g)) := hG
        clear f0 f1 hG
        go_wp2
        (try rw [Exit.noGoto_ret])
        refine bodyPost_ret (v := .tuple #[.agg #[.int .i64 0, .int .i64 0, .int .i64 0], .bool false]) (by simp [results, Tryd.results26, go_sem, r0, r1, r2, q0, q1, q2]) rfl (.inr ⟨HF.out, rfl, gb_new (gb_new (gb_new hG'.out (by omega)) (by omega)) (by omega)⟩)
      have hs1 : 0 < si.size := by omega
      by_cases hc : (si[0]'hs1).toNat = 46
      · go_wp2_with fail
        refine (sign_yes g si 46 _ RV.out.2.2.2.2.2.1.1 RV.out.2.2.2.2.2.1.2 hs1 hc).mono ?_
        rintro e W3 ⟨rfl, hW3⟩
        have RV3 : Hid (RVI w W3 g (si.extract 1 si.size) x y 0) := by
          rw [hW3]
          exact RV.out.grown hg (gb_set _ _ _ _) (left_set RV.out.2.2.2.2.2.1)
        have hss : (si.extract 1 si.size).size ≤ 65536 := by rw [sl_size si 1 hs1]; omega
        clear hW3 f0
        obtain ⟨n, k, hnk0⟩ : ∃ n k, ld 9999 (bl (si.extract 1 si.size)) = (n, k) := ⟨_, _, rfl⟩
        have hnk : Hid (ld 9999 (bl (si.extract 1 si.size)) = (n, k)) := hnk0
        clear hnk0
        have f1 := RV3.out.1.2
        go_wp2_with fail
        refine (number_any g (si.extract 1 si.size) 9999 n k hnk _ RV3.out.2.2.2.2.2.1 (Nat.lt_of_lt_of_le hg RV3.out.2.2.2.2.2.2.1.size) (by omega) (by omega) (by omega)).mono ?_
        rintro e w4 ⟨rfl, hL4, hg4⟩
        have RV4 : Hid (RVI w w4 g ((si.extract 1 si.size).extract k (si.extract 1 si.size).size) x y 0) := RV3.out.grown hg hg4 hL4
        have hk1 : Hid (k ≤ (si.extract 1 si.size).size) := ld_le hnk (by decide)
        clear f1 hL4 hg4
        by_cases hk : 0 < k
        · have hkd : decide (0 < k) = true := decide_eq_true hk
          rw [hkd]
          have HS1 : Hid (rvS (bl s) 3 = some ((x, y, n), bl ((si.extract 1 si.size).extract k (si.extract 1 si.size).size))) := by
            show _ = _
            rw [sl_bl _ _ hk1.out]
            rw [rvS_3, HS.out]; simp only [Option.bind_some]; rw [sgD_at hs1, if_pos hc, ← sl_bl si 1 hs1]; simp only [Option.bind_some]; rw [rv1_yes hnk.out hk]; rfl
          obtain ⟨_, _, _, ⟨v0, v1, v2⟩, ⟨p0, p1, p2⟩, _, _, hz⟩ := RV4.out
          have RV5 : Hid (RVI w (w4.setCell ⟨w.heap.size + 1 + 1, 2, none⟩ (.int .i64 n)) g ((si.extract 1 si.size).extract k (si.extract 1 si.size).size) x y n) := RV4.out.set2 hg
          have hsz : Hid (((si.extract 1 si.size).extract k (si.extract 1 si.size).size).size ≤ 65536) := by show _ ≤ _; rw [sl_size _ _ hk1.out]; omega
          go_wp2
          go_roundw
          case rel => exact ⟨3, _, x, y, n, by omega, by go_num, RV5.out, HS1.out, hsz.out⟩
          case measure => simp [intOf]
        · have hkd : decide (0 < k) = false := decide_eq_false hk
          rw [hkd]
          have HF : Hid (rvS (bl s) 3 = none) := rvS_none (i := 3) (by omega) (by rw [rvS_3, HS.out]; simp only [Option.bind_some]; rw [sgD_at hs1, if_pos hc, ← sl_bl si 1 hs1]; simp only [Option.bind_some]; rw [rv1_no hnk.out hk]; rfl)
          obtain ⟨⟨f0, f1⟩, ⟨r0, r1, r2⟩, ⟨q0, q1, q2⟩, _, _, _, hG, hz⟩ := RV4.out
          have hG' : Hid (w.grownBy _ (some g)) := hG
          clear f0 f1 hG
          go_wp2
          (try rw [Exit.noGoto_ret])
          refine bodyPost_ret (v := .tuple #[.agg #[.int .i64 0, .int .i64 0, .int .i64 0], .bool false]) (by simp [results, Tryd.results26, go_sem, r0, r1, r2, q0, q1, q2]) rfl (.inr ⟨HF.out, rfl, gb_new (gb_new (gb_new hG'.out (by omega)) (by omega)) (by omega)⟩)
      · go_wp2_with fail
        refine (sign_other g si 46 _ RV.out.2.2.2.2.2.1.1 hs1 hc).mono ?_
        rintro e w' ⟨rfl, rfl⟩
        clear f0
        have HF : Hid (rvS (bl s) 3 = none) := rvS_none (i := 3) (by omega) (by rw [rvS_3, HS.out]; simp only [Option.bind_some]; rw [sgD_at hs1, if_neg hc]; rfl)
        obtain ⟨⟨f0, f1⟩, ⟨r0, r1, r2⟩, ⟨q0, q1, q2⟩, _, _, _, hG, hz⟩ := RV.out
        have hG' : Hid (w.grownBy _ (some g)) := hG
        clear f0 f1 hG
        go_wp2
        (try rw [Exit.noGoto_ret])
        refine bodyPost_ret (v := .tuple #[.agg #[.int .i64 0, .int .i64 0, .int .i64 0], .bool false]) (by simp [results, Tryd.results26, go_sem, r0, r1, r2, q0, q1, q2]) rfl (.inr ⟨HF.out, rfl, gb_new (gb_new (gb_new hG'.out (by omega)) (by omega)) (by omega)⟩)
    · have HS : Hid (rvS (bl s) 3 = some ((x, y, z), bl si)) := hS0
      obtain ⟨⟨f0, f1⟩, ⟨r0, r1, r2⟩, ⟨q0, q1, q2⟩, ⟨v0, v1, v2⟩, _, hL, hG, hz⟩ := hRV
      have hL' : Hid (Left wr g si) := hL
      have hG' : Hid (w.grownBy wr (some g)) := hG
      clear f0 f1 hG hL hS0 RV0
      go_wp2
      (try rw [Exit.noGoto_ret])
      refine bodyPost_ret (v := .tuple #[.agg #[.int .i64 x, .int .i64 y, .int .i64 z], .bool true]) (by simp [results, Tryd.results26, go_sem, r0, r1, r2, q0, q1, q2]) rfl (.inl ⟨x, y, z, _, HS.out, rfl, si, left_set3 hL'.out (by omega), rfl, gb_new (gb_new (gb_new hG'.out (by omega)) (by omega)) (by omega)⟩)
end Go.Proofs.YtgnacdhceiapkaaDoor

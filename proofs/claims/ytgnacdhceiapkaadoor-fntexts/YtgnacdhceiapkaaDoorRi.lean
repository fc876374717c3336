/- readWhole and ReadDot, of the program. -/
import Derived.Test.YtgnacdhceiapkaaDoorRows
import Derived.WalkKit
import Derived.WalkSpells
import Derived.WalkLawsBesides
import Derived.Deep.QuietTactic
import Derived.BigQuiet
import Derived.Deep.RegionHeld3
import Derived.Test.YtgnacdhceiapkaaDoorSr
import Derived.Test.YtgnacdhceiapkaaDoorRw
import Derived.LoopN
import Derived.Laws.EntriesVeiled
namespace Go.Proofs.YtgnacdhceiapkaaDoor
open Go.RowKit
set_option linter.unusedSimpArgs false
set_option linter.unusedVariables false

theorem bl_nil {s : ByteArray} (h : s.size = 0) : bl s = [] := List.length_eq_zero_iff.1 (by rw [bl_len]; exact h)
theorem rd_td (l : List UInt8) (p n : Int) (ok : Bool) (rest : List UInt8) (h : rdR l = ((p, n), ok, rest)) : ((ok = true ∧ rest = []) ↔ tdR l) ∧ (ok = true → rest = [] → p = (tdV l).1 ∧ n = (tdV l).2) := by
  cases l with
  | nil =>
    simp only [rdR, Prod.mk.injEq] at h
    obtain ⟨⟨_, _⟩, h1, _⟩ := h
    subst h1
    exact ⟨⟨fun h => (by cases h.1), fun h => False.elim h⟩, fun h => (by cases h)⟩
  | cons c r =>
    by_cases hc : 97 ≤ c.toNat ∧ c.toNat ≤ 99
    · obtain ⟨m, k, hk⟩ : ∃ m k, ld 9999 r = (m, k) := ⟨_, _, rfl⟩
      rw [rdR, if_pos hc, hk] at h
      simp only [Prod.mk.injEq] at h
      obtain ⟨⟨rfl, rfl⟩, rfl, rfl⟩ := h
      have hkl : k ≤ r.length := by have := (ld_bound (most := 9999) (by decide) r).2.2; rw [hk] at this; exact this
      have key : ∀ (h1 : 0 < k) (h2 : r.drop k = []), Num r ∧ m = nv r ∧ nv r ≤ 9999 := fun h1 h2 => by
        have h3 : k = r.length := by rw [List.drop_eq_nil_iff] at h2; omega
        rw [h3] at hk h1
        exact num_ld hk h1
      refine ⟨⟨fun ⟨h1, h2⟩ => ?_, fun h => ?_⟩, fun h1 h2 => ?_⟩
      · rw [Bool.and_eq_true, decide_eq_true_iff] at h1
        obtain ⟨hN, hm, hb⟩ := key h1.1 h2
        have hl : r.length ≤ 18 := by
          rcases Nat.lt_or_ge r.length 6 with q | q
          · omega
          · have := num_big hN q; omega
        exact ⟨hc, ⟨hN, hl⟩, by rw [← hm]; exact h1.2⟩
      · obtain ⟨_, ⟨hN, _⟩, hD⟩ := h
        have hb : nv r ≤ 9999 := by have := of_decide_eq_true hD; omega
        have := ld_num hN (by decide) hb
        rw [hk] at this
        simp only [Prod.mk.injEq] at this
        obtain ⟨rfl, rfl⟩ := this
        refine ⟨?_, by simp⟩
        rw [Bool.and_eq_true, decide_eq_true_iff]
        exact ⟨List.length_pos_iff.2 hN.1, hD⟩
      · rw [Bool.and_eq_true, decide_eq_true_iff] at h1
        exact ⟨rfl, (key h1.1 h2).2.1⟩
    · rw [rdR, if_neg hc] at h
      simp only [Prod.mk.injEq] at h
      obtain ⟨_, h1, _⟩ := h
      subst h1
      exact ⟨⟨fun h => (by cases h.1), fun h => (hc h.1).elim⟩, fun h => (by cases h)⟩
theorem bel_grown {w W W' : World} {g : Nat} (h : Below w.heap.size w W) (hg : W.grownBy W' (some g)) (hr : w.heap.size ≤ g) : Below w.heap.size w W' :=
  ⟨hg.os.trans h.os, hg.tape.trans h.tape, hg.output.trans h.output, Nat.le_trans h.size hg.size, fun b hb => (hg.block b (Nat.lt_of_lt_of_le hb h.size) (fun e => by cases e; omega)).trans (h.block b hb)⟩
theorem grown_froz {W W' : World} {g b o : Nat} (hg : W.grownBy W' (some g)) (h : W.frozen? ⟨b, o, none⟩ = false) (hb : b < W.heap.size) (hne : b ≠ g) : W'.frozen? ⟨b, o, none⟩ = false := by
  rw [World.frozen?_of_block (w := W) (hg.block b hb (fun e => by cases e; exact hne rfl))]; exact h
set_option maxHeartbeats 4000000 in
theorem whole_any (s : ByteArray) (p n code : Int) (hA : Hid (RdA s p n code)) (w : World) (hs : s.size ≤ 1048576) :
    Calls Tryd.prog 21 #[.string s, .func (.func 22) #[] #[]] w fun e w' => e = .returned (.tuple #[.agg #[.int .i64 p, .int .i64 n], .int .i64 code]) ∧ Below w.heap.size w w' := by
  by_cases hb65 : 65536 < s.size
  · obtain ⟨rfl, rfl, rfl⟩ := hA.out.1 hb65
    have hb' : (65536 : Int) < (s.size : Int) := by omega
    go_enter Tryd.func21, Tryd.ntmps21
    go_wp2
    refine bodyPost_ret (v := .tuple #[.agg #[.int .i64 0, .int .i64 0], .int .i64 2]) (by simp [results, Tryd.results21, go_sem]) rfl ⟨rfl, ?_⟩
    repeat (first | exact Below.refl _ _ | refine Below.drew ?_ | refine below_drewN ?_ _ | refine Below.alloc ?_ (by first | (simp; done) | (simp; omega)) _ | refine Below.setCell ?_ (by first | (simp; done) | (simp; omega)) _)
  have hb' : ¬ (65536 : Int) < (s.size : Int) := by omega
  obtain ⟨p', n', ok, rest, hR0⟩ : ∃ p' n' ok rest, rdR (bl s) = ((p', n'), ok, rest) := ⟨_, _, _, _, rfl⟩
  have hR : Hid (rdR (bl s) = ((p', n'), ok, rest)) := hR0
  have HT := rd_td (bl s) p' n' ok rest hR0
  have HT' : Hid (((ok = true ∧ rest = []) ↔ tdR (bl s)) ∧ (ok = true → rest = [] → p' = (tdV (bl s)).1 ∧ n' = (tdV (bl s)).2)) := HT
  clear hR0 HT
  have R0 : Hid ((((w.alloc (.cells #[.int .i64 0, .int .i64 0] 24)).alloc (.cells #[.int .i64 0, .int .i64 0] 24))).cell? ⟨w.heap.size, 0, none⟩ = some (.int .i64 0) ∧ (((w.alloc (.cells #[.int .i64 0, .int .i64 0] 24)).alloc (.cells #[.int .i64 0, .int .i64 0] 24))).cell? ⟨w.heap.size, 1, none⟩ = some (.int .i64 0) ∧ (((w.alloc (.cells #[.int .i64 0, .int .i64 0] 24)).alloc (.cells #[.int .i64 0, .int .i64 0] 24))).frozen? ⟨w.heap.size, 0, none⟩ = false ∧ (((w.alloc (.cells #[.int .i64 0, .int .i64 0] 24)).alloc (.cells #[.int .i64 0, .int .i64 0] 24))).frozen? ⟨w.heap.size, 1, none⟩ = false ∧ (((w.alloc (.cells #[.int .i64 0, .int .i64 0] 24)).alloc (.cells #[.int .i64 0, .int .i64 0] 24))).cell? ⟨w.heap.size + 1, 0, none⟩ = some (.int .i64 0) ∧ (((w.alloc (.cells #[.int .i64 0, .int .i64 0] 24)).alloc (.cells #[.int .i64 0, .int .i64 0] 24))).cell? ⟨w.heap.size + 1, 1, none⟩ = some (.int .i64 0)) := ⟨by go_simp, by go_simp, by go_simp, by go_simp, by go_simp, by go_simp⟩
  have HB0 : Hid (Below w.heap.size w ((w.alloc (.cells #[.int .i64 0, .int .i64 0] 24)).alloc (.cells #[.int .i64 0, .int .i64 0] 24))) := (bel_alloc _ _).trans ((bel_alloc _ _).mono (by simp))
  have HZ : Hid ((((w.alloc (.cells #[.int .i64 0, .int .i64 0] 24)).alloc (.cells #[.int .i64 0, .int .i64 0] 24))).heap.size = w.heap.size + 1 + 1) := by show _ = _; simp
  go_enter Tryd.func21, Tryd.ntmps21
  go_wp2_with fail
  generalize ((w.alloc (.cells #[.int .i64 0, .int .i64 0] 24)).alloc (.cells #[.int .i64 0, .int .i64 0] 24)) = W0 at *
  refine (reader_any s W0).mono ?_
  rintro e w1 ⟨rfl, hb, hL, hlt⟩
  obtain ⟨g, hg⟩ : ∃ g, g = W0.heap.size := ⟨_, rfl⟩
  rw [← hg] at hL hlt ⊢
  have hgw : w.heap.size + 1 < g := by have := HZ.out; omega
  have HB1 : Hid (Below w.heap.size w w1) := bel_next HB0 hb
  obtain ⟨R00, R01, R02, R03, R04, R05⟩ := R0.out
  have hzz : w.heap.size + 1 < W0.heap.size := by have := HZ.out; omega
  have r0 := cell_next hb R00 (by omega)
  have r1 := cell_next hb R01 (by omega)
  have q0 := frozen_next hb R02 (by omega)
  have q1 := frozen_next hb R03 (by omega)
  have n0 := cell_next hb R04 (by omega)
  have n1 := cell_next hb R05 (by omega)
  have HL1 : Hid (Left w1 g s) := hL
  clear hb hL hg R00 R01 R02 R03 R04 R05 hzz R0 HB0 HZ
  clear W0
  go_wp2_with fail
  refine (readDot_any g s _ (by simp; omega) (left_next HL1.out (bel_alloc _ _) hlt) (by omega) p' n' ok rest hR).mono ?_
  rintro e w2 ⟨rfl, s', hL2, hbl, hg2⟩
  have f2 : w2.cell? ⟨w1.heap.size, 2, none⟩ = some (.func (.func 66) #[] #[.pointer (some ⟨g, 0, none⟩)]) := grown_cell hg2 (by go_simp) (by omega)
  replace r0 := grown_cell hg2 (box_a r0 (by omega)) (by omega)
  replace r1 := grown_cell hg2 (box_a r1 (by omega)) (by omega)
  replace n0 := grown_cell hg2 (box_a n0 (by omega)) (by omega)
  replace n1 := grown_cell hg2 (box_a n1 (by omega)) (by omega)
  replace q0 := grown_froz hg2 (froz_a q0 (by omega)) (by simp; omega) (by omega)
  replace q1 := grown_froz hg2 (froz_a q1 (by omega)) (by simp; omega) (by omega)
  have hz2 : w1.heap.size < w2.heap.size := by have := hg2.size; simp at this; omega
  have hz : w.heap.size < w2.heap.size := by omega
  have HB : Hid (Below w.heap.size w w2) := bel_grown (bel_next HB1 (bel_alloc _ _)).out hg2 (by omega)
  have L2 : Hid (Left w2 g s') := hL2
  have HBL : Hid (bl s' = rest) := hbl
  have f2' : ∀ o, (w2.alloc o).cell? ⟨w1.heap.size, 2, none⟩ = some (.func (.func 66) #[] #[.pointer (some ⟨g, 0, none⟩)]) := fun o => box_a f2 hz2
  have n0' : ∀ o, (w2.alloc o).cell? ⟨w.heap.size + 1, 0, none⟩ = some (.int .i64 0) := fun o => box_a n0 (by omega)
  have n1' : ∀ o, (w2.alloc o).cell? ⟨w.heap.size + 1, 1, none⟩ = some (.int .i64 0) := fun o => box_a n1 (by omega)
  clear hL2 hbl hg2 HB1 HL1 f2 n0 n1
  cases ok
  · obtain ⟨rfl, rfl, rfl⟩ := hA.out.2.2 hb65 (fun h => by have := HT'.out.1.2 h; cases this.1)
    go_wp2
    refine bodyPost_ret (v := .tuple #[.agg #[.int .i64 0, .int .i64 0], .int .i64 3]) (by simp [results, Tryd.results21, go_sem, r0, r1, q0, q1, hz]) rfl ⟨rfl, ?_⟩
    exact ((HB.out.setCell (by simp) _).setCell (by simp) _).alloc (by simpa [World.setCell] using Nat.le_of_lt hz) _
  · by_cases hs' : s'.size = 0
    · have hrest : rest = [] := by rw [← HBL.out]; exact bl_nil hs'
      have hT := HT'.out.1.1 ⟨rfl, hrest⟩
      obtain ⟨a1, a2, a3⟩ := hA.out.2.1 hb65 hT
      obtain ⟨e1, e2⟩ := HT'.out.2 rfl hrest
      obtain rfl : p' = p := e1.trans a1.symm
      obtain rfl : n' = n := e2.trans a2.symm
      subst a3
      clear a1 a2 e1 e2 hT hrest HT' hA hR
      go_wp2_with fail
      refine (ended_yes g s' _ (left_next L2.out (bel_alloc _ _) (by omega)).1 hs').mono ?_
      rintro e w' ⟨rfl, rfl⟩
      go_wp2
      refine bodyPost_ret (v := .tuple #[.agg #[.int .i64 p', .int .i64 n'], .int .i64 0]) (by simp [results, Tryd.results21, go_sem, r0, r1, q0, q1, hz]) rfl ⟨rfl, ?_⟩
      exact ((HB.out.setCell (by simp) _).setCell (by simp) _).alloc (by simpa [World.setCell] using Nat.le_of_lt hz) _
    · obtain ⟨rfl, rfl, rfl⟩ := hA.out.2.2 hb65 (fun h => by
        have := (HT'.out.1.2 h).2
        rw [← HBL.out] at this
        have h2 := bl_len s'
        rw [this] at h2
        simp at h2
        omega)
      go_wp2_with fail
      refine (ended_no g s' _ (left_next L2.out (bel_alloc _ _) (by omega)).1 (by omega)).mono ?_
      rintro e w' ⟨rfl, rfl⟩
      go_wp2
      refine bodyPost_ret (v := .tuple #[.agg #[.int .i64 0, .int .i64 0], .int .i64 3]) (by simp [results, Tryd.results21, go_sem, r0, r1, q0, q1, hz]) rfl ⟨rfl, ?_⟩
      exact ((HB.out.setCell (by simp) _).setCell (by simp) _).alloc (by simpa [World.setCell] using Nat.le_of_lt hz) _
set_option maxHeartbeats 1000000 in
theorem implRead_any (s : ByteArray) (p n code : Int) (hA : Hid (RdA s p n code)) (w : World) (hs : s.size ≤ 1048576) :
    Calls Tryd.prog 8 #[.string s] w fun e w' => e = .returned (.tuple #[.agg #[.int .i64 p, .int .i64 n], .int .i64 code]) ∧ Below w.heap.size w w' := by
  go_enter Tryd.func8, Tryd.ntmps8
  go_wp2_with fail
  refine (whole_any s p n code hA _ hs).mono ?_
  rintro e w1 ⟨rfl, hb⟩
  have HB : Hid (Below w.heap.size w w1) := (bel_alloc _ _).trans (hb.mono (by simp))
  have r0 := cell_next hb (b := w.heap.size) (o := 0) (v := .int .i64 0) (by go_simp) (by simp)
  have r1 := cell_next hb (b := w.heap.size) (o := 1) (v := .int .i64 0) (by go_simp) (by simp)
  have q0 := frozen_next hb (b := w.heap.size) (o := 0) (by go_simp) (by simp)
  have q1 := frozen_next hb (b := w.heap.size) (o := 1) (by go_simp) (by simp)
  clear hb hA
  go_wp2
  refine bodyPost_ret (v := .tuple #[.agg #[.int .i64 p, .int .i64 n], .int .i64 code]) (by simp [results, Tryd.results8, go_sem, r0, r1, q0, q1]) rfl ⟨rfl, ?_⟩
  exact (HB.out.setCell (by simp) _).setCell (by simp) _
end Go.Proofs.YtgnacdhceiapkaaDoor
